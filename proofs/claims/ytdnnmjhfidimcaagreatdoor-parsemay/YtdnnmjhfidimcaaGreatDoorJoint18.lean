/- Nodes in a row that grows. A node more in a row, where its block is laid ahead. Statements. -/
import Derived.Test.YtdnnmjhfidimcaaGreatDoorPsPosts
import Derived.Handy
import Derived.Deep.RegionLaw
import Derived.Test.YtdnnmjhfidimcaaGreatDoorJoint16
import Derived.Deep.AppendLies
import Derived.Test.YtdnnmjhfidimcaaGreatDoorJoint17
import Derived.Test.YtdnnmjhfidimcaaGreatDoorJoint15
namespace Go.Proofs.YtdnnmjhfidimcaaGreatDoor
set_option maxRecDepth 100000
set_option maxHeartbeats 12800000
open Go.RowKit
def oX (x:Nd) (nv kv:Value):List Value:=[.int .i64 x.kind,.int .i64 x.op,.int .i64 x.num,.string x.str,nv,kv,.int .i64 x.pl]
def wK (ok:Nat→Prop) (w:World):List Nd→List Value→Prop
 | [],cs=>cs=[]
 | x::r,cs=>∃ nv kv cs',cs=oX x nv kv++cs'∧wG ok w x nv kv∧wK ok w r cs'
theorem vB {ok:Nat→Prop} {w:World} : ∀ {ks:List Nd} {cs:List Value},wK ok w ks cs→cs.length=ks.length*7
 | [],cs,h=>by rw [show cs=[] from h];rfl
 | x::r,cs,h=>by
  obtain⟨nv,kv,cs',rfl,_,h3⟩:=h;have:=vB h3;simp [oX,this];omega
theorem mT {ok ok':Nat→Prop} {a c:World} (hk:∀ b,ok b→ok' b∧c.heap[b]? = a.heap[b]?):∀ {ks:List Nd} {cs:List Value},wK ok a ks cs→wK ok' c ks cs
 | [],cs,h=>h
 | x::r,cs,h=>by
  obtain⟨nv,kv,cs',e,h2,h3⟩:=h;exact⟨nv,kv,cs',e,gU hk _ _ _ h2,mT hk h3⟩
theorem tB {ok:Nat→Prop} {w:World} {x:Nd} {nv kv:Value} (hx:wG ok w x nv kv):∀ {ks:List Nd} {cs:List Value},wK ok w ks cs→wK ok w (ks++[x]) (cs++oX x nv kv)
 | [],cs,h=>by rw [show cs=[] from h];exact⟨nv,kv,[],by simp,hx,rfl⟩
 | y::r,cs,h=>by
  obtain⟨nv',kv',cs',rfl,h2,h3⟩:=h;exact⟨nv',kv',cs'++oX x nv kv,by simp,h2,tB hx h3⟩
theorem DT {ok:Nat→Prop} {w:World} {g:Nat} {T:TypeId} {cur:Array Value} (hb:dP g T cur w):∀ {ks:List Nd} {cs:List Value} {off:Nat},wK ok w ks cs→(∀ i,i<cs.length→cur[off+i]? = cs[i]?)→oB ok w g ks off
 | [],cs,off,h,_=>by rw [oB];trivial
 | x::r,cs,off,h,hc=>by
  obtain⟨nv,kv,cs',rfl,h2,h3⟩:=h;have hl:(oX x nv kv).length=7:=rfl;refine qJ hb h2 r (DT hb h3 fun i hi=>?_) ?_ ?_ ?_ ?_ ?_ ?_ ?_
  ·have:=hc (7+i) (by simp [oX];omega);rw [show off+(7+i)=off+7+i by omega] at this;rw [this,List.getElem?_append_right (by simp [oX])];simp [oX]
  ·simpa [oX] using hc 0 (by simp [oX])
  ·simpa [oX] using hc 1 (by simp [oX])
  ·simpa [oX] using hc 2 (by simp [oX])
  ·simpa [oX] using hc 3 (by simp [oX])
  ·simpa [oX] using hc 4 (by simp [oX])
  ·simpa [oX] using hc 5 (by simp [oX])
  ·simpa [oX] using hc 6 (by simp [oX])
def Fb (ok:Nat→Prop) (v:Value) (w:World) (b:Nat):Prop:=ok b∧b<w.heap.size∧some b≠v.ownBlock
def jC (lo:Nat) (ok:Nat→Prop) (w:World) (v:Value) (ks:List Nd):Prop:=
 ∃ cs,w.ownsRow lo 26 7 v ks.length cs∧wK (Fb ok v w) w ks cs∧∀ g,v.ownBlock=some g→ok g
theorem jT {lo:Nat} {ok:Nat→Prop} {w:World} {v:Value} {ks:List Nd} (h:jC lo ok w v ks):Io ok w v ks:=by
 obtain⟨cs,hown,hr,hg⟩:=h;rcases hown.2 with ⟨h1,h2⟩ | ⟨g,cap,cur,h1,h2,h3,h4,h5,h6,h7⟩
 ·have:ks=[]:=List.length_eq_zero_iff.1 h2;subst this;exact .inl ⟨none,0,h1,rfl⟩
 ·have hlt:g<w.heap.size:=aF (show dP g 26 cur w from h3);refine .inr ⟨g,0,cap,h1,⟨hg g (by rw [h1];rfl),hlt⟩,?_,h4⟩;have hcl:=vB hr;have hr2:wK (FM ok w) w ks cs:=mT (fun b hb=>⟨⟨hb.1,hb.2.1⟩,rfl⟩) hr;exact DT (show dP g 26 cur w from h3) hr2 fun i hi=>by
   rw [Nat.zero_add,← h7,List.getElem?_take,if_pos (by omega),Array.getElem?_toList]
theorem vC:∃ i0,Tryz.prog.info? 26=some i0∧i0.zero=some (.agg #[.int .i64 0,.int .i64 0,.int .i64 0,.string ⟨#[]⟩,.slice none 0 0,.slice none 0 0,.int .i64 0])∧i0.size=7∧i0.bytes=96:=
 info_parts (show (Tryz.prog.info? 26).map (fun i=>(i.zero,i.size,i.bytes))=some (some (.agg #[.int .i64 0,.int .i64 0,.int .i64 0,.string ⟨#[]⟩,.slice none 0 0,.slice none 0 0,.int .i64 0]),7,96) by kernel_rfl)
theorem qL:Tryz.prog.underlying 24=some (.slice 26):=by kernel_rfl
def zl:List Value:=[.int .i64 0,.int .i64 0,.int .i64 0,.string ⟨#[]⟩,.slice none 0 0,.slice none 0 0,.int .i64 0]
structure ButLo (lo P:Nat) (w w':World):Prop where
 os:w'.os=w.os
 tape:w'.tape=w.tape
 output:w'.output=w.output
 size:w.heap.size≤w'.heap.size
 block:∀ k,k<lo→k≠P→w'.heap[k]? = w.heap[k]?
theorem ButLo.refl (lo P:Nat) (w:World):ButLo lo P w w:=⟨rfl,rfl,rfl,Nat.le_refl _,fun _ _ _=>rfl⟩
theorem ButLo.trans {lo P:Nat} {a b c:World} (h:ButLo lo P a b) (k:ButLo lo P b c):ButLo lo P a c:=
 ⟨k.os.trans h.os,k.tape.trans h.tape,k.output.trans h.output,Nat.le_trans h.size k.size,fun i h1 h2=>(k.block i h1 h2).trans (h.block i h1 h2)⟩
theorem ButLo.of {lo P:Nat} {a b:World} (h:But P a b) (hl:lo≤a.heap.size):ButLo lo P a b:=⟨h.os,h.tape,h.output,h.size,fun k h1 h2=>h.block k (by omega) h2⟩
theorem ButLo.set {lo P g i:Nat} (w:World) (v:Value) (hg:lo≤g):ButLo lo P w (w.setCell ⟨g,i,none⟩ v):=⟨rfl,rfl,rfl,by simp [World.setCell],fun k h1 _=>Below.heap_setCell _ _ _ _ (by simp;omega)⟩
theorem ButLo.grown {lo P:Nat} {a b:World} {row:Option Nat} (h:a.grownBy b row) (hl:lo≤a.heap.size) (hr:∀ k,row=some k→lo≤k):ButLo lo P a b:=
 ⟨h.os,h.tape,h.output,h.size,fun k h1 _=>h.block k (by omega) (fun e=>by have:=hr k e.symm;omega)⟩
theorem jD {lo:Nat} {ok:Nat→Prop} {a c:World} {v:Value} {ks:List Nd} (h:jC lo ok a v ks) (hs:a.heap.size≤c.heap.size) (hk:∀ b,ok b→b<a.heap.size→c.heap[b]? = a.heap[b]?):jC lo ok c v ks:=by
 obtain⟨cs,hown,hr,hg⟩:=h;refine⟨cs,⟨hown.1,?_⟩,mT (fun b hb=>⟨⟨hb.1,Nat.lt_of_lt_of_le hb.2.1 hs,hb.2.2⟩,hk b hb.1 hb.2.1⟩) hr,hg⟩;rcases hown.2 with h1 | ⟨g,cap,cur,h1,h2,h3,h4⟩
 ·exact .inl h1
 ·refine .inr ⟨g,cap,cur,h1,h2,?_,h4⟩;have hlt:g<a.heap.size:=aF (show dP g 26 cur a from h3);rw [hk g (hg g (by rw [h1];rfl)) hlt];exact h3
theorem dR {lo P:Nat} {ok:Nat→Prop} {a c:World} {v:Value} {ks:List Nd} (h:jC lo ok a v ks) (k:But P a c) (hp:¬ ok P):jC lo ok c v ks:=
 jD h k.size (fun b hb hlt=>k.block b hlt (fun e=>hp (e▸hb)))
theorem bD {lo:Nat} {ok:Nat→Prop} {a c:World} {v:Value} {ks:List Nd} (h:jC lo ok a v ks) (k:Below a.heap.size a c):jC lo ok c v ks:=
 jD h k.size (fun b _ hlt=>k.block b hlt)
theorem iR {lo:Nat} {ok:Nat→Prop} {w:World} {v:Value} {ks:List Nd} (h:jC lo ok w v ks):∃ ao cap,v=.slice ao ks.length cap:=wJ (jT h)
theorem Mc {cs:Array Value} {i:Nat} {v:Value} (h:i<cs.size):(cs.setIfInBounds i v)[i]? = some v:=by simp [h]
theorem PI {cs:Array Value} {i j:Nat} {v:Value} (h:i≠j):(cs.setIfInBounds i v)[j]? = cs[j]?:=by simp [h]
theorem Md {lo:Nat} {ok:Nat→Prop} {a b c:World} {v:Value} {ks:List Nd} {cs:List Value} {g cap:Nat} {x:Nd} {nv kv:Value} (_hl:lo≤a.heap.size) (hup:∀ k,a.heap.size≤k→ok k)
  (hr:wK (Fb ok v a) a ks cs) (hg:∀ k,v.ownBlock=some k→ok k) (hx:wG (Fb ok v a) a x nv kv)
  (hown:b.ownsRow lo 26 7 (.slice (some ⟨g,0,none⟩) (ks.length+1) cap) (ks.length+1) (cs++zl)) (hgr:a.grownBy b v.ownBlock) (hat:v.ownBlock=some g∨g=a.heap.size)
  (hc:∃ cur,b.heap[g]? = some (.cells cur 26 (0,0))∧c.heap[g]? = some (.cells (((((((cur.setIfInBounds (ks.length*7) (.int .i64 x.kind)).setIfInBounds (ks.length*7+1) (.int .i64 x.op)).setIfInBounds (ks.length*7+2) (.int .i64 x.num)).setIfInBounds (ks.length*7+3) (.string x.str)).setIfInBounds (ks.length*7+4) nv).setIfInBounds (ks.length*7+5) kv).setIfInBounds (ks.length*7+6) (.int .i64 x.pl)) 26 (0,0)))
  (hcs:b.heap.size≤c.heap.size) (hck:∀ k,ok k→k<b.heap.size→k≠g→c.heap[k]? = b.heap[k]?):jC lo ok c (.slice (some ⟨g,0,none⟩) (ks.length+1) cap) (ks++[x]):=by
 have hcl:=vB hr;have hok:ok g:=by rcases hat with h | h;exact hg g h;exact hup g (by omega)
 have keep:∀ k,Fb ok v a k→Fb ok (.slice (some ⟨g,0,none⟩) (ks.length+1) cap) c k∧c.heap[k]? = a.heap[k]?:=by
  rintro k ⟨h1,h2,h3⟩;have hkg:k≠g:=by rintro rfl;rcases hat with h | h;exact h3 h.symm;omega
  have h4:b.heap[k]? = a.heap[k]?:=hgr.block k h2 h3;have h5:=hgr.size;exact⟨⟨h1,by omega,by simp [Value.ownBlock,hkg]⟩,(hck k h1 (by omega) hkg).trans h4⟩
 refine⟨cs++oX x nv kv,⟨by simp [oX,hcl];omega,?_⟩,tB (gU keep _ _ _ hx) (mT keep hr),fun k hk=>by simp [Value.ownBlock] at hk;exact hk▸hok⟩;rcases hown.2 with ⟨h1,_⟩ | ⟨g2,cap2,cur2,h1,h2,h3,h4,h5,h6,h7⟩
 ·cases h1
 ·injection h1 with e1 e2 e3;injection e1 with e1;injection e1 with e1;subst e1 e3;obtain⟨cur,hb,hc⟩:=hc;rw [h3] at hb;injection hb with hb;injection hb with hb;subst hb;refine .inr ⟨g,cap,_,by simp,h2,hc,by simpa using h4,h5,by simpa using h6,?_⟩;have hlen:cs.length=ks.length*7:=hcl;have hsz:cur2.toList.length=cap*7:=by simpa using h6
  have hcap:(ks.length+1)*7≤cap*7:=by omega
  have e0:cur2.toList.take (ks.length*7)=cs:=by
   have:=congrArg (List.take (ks.length*7)) h7;rw [List.take_take,Nat.min_eq_left (by omega),List.take_left' hlen] at this;exact this
  have hn:(ks++[x]).length*7=ks.length*7+7:=by simp;omega
  have hsize:cur2.size=cap*7:=h6;apply List.ext_getElem?;intro i;rw [List.getElem?_take,hn];by_cases hi:i<ks.length*7
  ·rw [if_pos (by omega),Array.getElem?_toList,List.getElem?_append_left (by omega)];rw [Array.getElem?_setIfInBounds_ne (by omega),Array.getElem?_setIfInBounds_ne (by omega),Array.getElem?_setIfInBounds_ne (by omega),Array.getElem?_setIfInBounds_ne (by omega),Array.getElem?_setIfInBounds_ne (by omega),Array.getElem?_setIfInBounds_ne (by omega),Array.getElem?_setIfInBounds_ne (by omega)];rw [← e0,List.getElem?_take,if_pos hi,Array.getElem?_toList]
  ·by_cases hi2:i<ks.length*7+7
   ·obtain⟨j,hj,rfl⟩:∃ j,j<7∧i=ks.length*7+j:=⟨i - ks.length*7,by omega,by omega⟩
    rw [if_pos hi2,Array.getElem?_toList,List.getElem?_append_right (by omega),hlen,Nat.add_sub_cancel_left];obtain rfl | rfl | rfl | rfl | rfl | rfl | rfl:j=0∨j=1∨j=2∨j=3∨j=4∨j=5∨j=6:=by omega
    all_goals
     try simp only [Nat.add_zero]
     repeat (first | rw [Mc (by (try simp only [Array.size_setIfInBounds]);omega)] | rw [PI (by omega)])
     rfl
   ·rw [if_neg hi2,List.getElem?_eq_none (by simp [oX];omega)]
theorem Ir {ops:Array Oper} {rest:List Oper} {o:Oper} {a:Act} {Q:Exit→Act→World→Prop} {w:World} (hgd:o.guard=none) (s x:Operand)
  (ho:o.op=.call { callee:=.builtin .append,args:=#[s,x],argTypes:=#[24,24] })
  (lo:Nat) (ok:Nat→Prop) (ks:List Nd) (y:Nd) (b1 b2:Option Addr) (p1 p2:Nat) (cs:Array Value) (hcs:cs=fL y (.slice b1 y.names.length p1) (.slice b2 y.kids.length p2)) (v:Value) (hs:a.eval s=v) (hR:jC lo ok w v ks)
  (hY:wG (Fb ok v w) w y (.slice b1 y.names.length p1) (.slice b2 y.kids.length p2)) (nb:Nat) (hx:a.eval x=.slice (some ⟨nb,0,none⟩) 1 1) (hnb:nb=w.heap.size) (hlen:ks.length≤1000) (hlo:lo≤w.heap.size) (hup:∀ k,w.heap.size<k→ok k)
  (h:∀ v' w',jC lo ok w' v' (ks++[y])→(w.alloc (.cells cs 26)).grownBy w' v.ownBlock→wpList Tryz.prog ops Q rest (a.put o.dst v') w') :
  wpList Tryz.prog ops Q (o::rest) a (w.alloc (.cells cs 26)):=by
 subst hnb hcs;obtain⟨i0,hi,hz0,hz1,hz2⟩:=vC;obtain⟨xs,hown,hr,hg⟩:=hR;refine wpList_append_lies _ hgd s x 24 ho lo 26 i0 _ 7 96 qL hi hz0 hz1 hz2 rfl (by decide) v _ _ hs (World.ownsRow.alloc hown _) ⟨w.heap.size,0,none⟩ 1 1 (oX y (.slice b1 y.names.length p1) (.slice b2 y.kids.length p2)) hx rfl ?_ ?_ (by decide) (by unfold maxLen;omega) (by omega) (by simp;omega) (w.heap.size+1) (by simp) ?_
 ·intro j u hj;have e:(⟨w.heap.size,0,none⟩:Addr).add j=⟨w.heap.size,j,none⟩:=by unfold Addr.add;split<;>simp_all
  rw [e,World.cell?_alloc_new];simpa [fL,oX] using hj
 ·intro u hu;simp only [oX,List.mem_cons,List.not_mem_nil,or_false] at hu;rcases hu with rfl | rfl | rfl | rfl | rfl | rfl | rfl<;>rfl
 ·intro g cap w' hown' hgrow hat hlt;have hsz:=hgrow.size;simp only [World.size_alloc] at hsz;have keep:∀ k,Fb ok v w k→Fb ok (.slice (some ⟨g,0,none⟩) (ks.length+1) cap) w' k∧w'.heap[k]? = w.heap[k]?:=by
   rintro k ⟨h1,h2,h3⟩;have hkg:k≠g:=by
    rintro rfl;rcases hat with h | h
    ·exact h3 h.symm
    ·omega
   have h4:=hgrow.block k (by simp;omega) h3;have h5:=((Below.refl w.heap.size w).alloc (Nat.le_refl _) (.cells (fL y (.slice b1 y.names.length p1) (.slice b2 y.kids.length p2)) 26)).block k h2;exact⟨⟨h1,by omega,by simp [Value.ownBlock,hkg]⟩,h4.trans h5⟩
  refine h _ w' ⟨xs++oX y (.slice b1 y.names.length p1) (.slice b2 y.kids.length p2),?_,tB (gU keep _ _ _ hY) (mT keep hr),fun k hk=>?_⟩ hgrow
  ·simpa using hown'
  ·simp [Value.ownBlock] at hk;subst hk;rcases hat with h | h
   ·exact hg _ h
   ·exact hup _ (by omega)
theorem eP {P:Nat} {L l:List Tok} {a c:World} (h:PSt P L a l) (k:Below (P+1) a c):PSt P L c l:=by
 have hlt:=h.lt;obtain⟨R,cap,h1,h2,h3,h4⟩:=h.mem;refine⟨h.ok,h.suf,h.ne,aR h.sg ⟨k.os,k.tape,k.output,k.size,fun b hb=>k.block b (by omega)⟩,R,cap,h1,h2,?_,(k.block P (by omega)).trans h4⟩;intro i hi;obtain⟨g1,g2,g3,g4⟩:=h3 i hi;have hb:=k.block R (by omega);exact⟨(World.cell?_of_block (w:=a) hb).trans g1,(World.cell?_of_block (w:=a) hb).trans g2,(World.cell?_of_block (w:=a) hb).trans g3,(World.cell?_of_block (w:=a) hb).trans g4⟩
theorem gG {B:Nat} {a b:World} {row:Option Nat} (h:a.grownBy b row) (hB:B≤a.heap.size) (hr:∀ k,row=some k→B≤k):Below B a b:=
 ⟨h.os,h.tape,h.output,h.size,fun k hk=>h.block k (by omega) (fun e=>by have:=hr k e.symm;omega)⟩
theorem bA {lo:Nat} {ok:Nat→Prop} {w:World} {v:Value} {ks:List Nd} (h:jC lo ok w v ks):∀ g,v.ownBlock=some g→ok g∧lo≤g∧g<w.heap.size:=by
 obtain⟨cs,hown,hr,hg⟩:=h;intro g hv;exact⟨hg g hv,(hown.lt g hv).1,(hown.lt g hv).2⟩
theorem uB {g:Nat} {ks:List Nd} {m:List Tok} (h:¬ (ks.length<40∧bZ m [125]=false∧(cur m).kind≠6)):eG (g+1) ks m=.ok [] ks m:=by rw [eG,if_neg h]
theorem FW {g:Nat} {ks:List Nd} {m:List Tok} (h:ks.length<40∧bZ m [125]=false∧(cur m).kind≠6):eG (g+1) ks m=(kI g m).bindL fun e _ l=>eG g (ks++[e]) l:=by rw [eG,if_pos h]
theorem JY {f:Nat} {l:List Tok} {P:Nat} {L:List Tok} {w:World} (H:PSt P L w l) {x:Nd} {b:Bool} {l':List Tok} (h:kI f l=.ok x b l'):l'.length+1≤l.length:=by
 have:=(yF f).stmt l (jX H);rw [h] at this;obtain⟨_,pre,u,e,_⟩:=this;rw [e];simp
theorem DV (f:Nat) (hC:∀ g,g≤f→It g):zW f:=by
 intro P L l w hf H;have hP:=H.out.lt;have R0:=aA (show jC w.heap.size (fun b=>w.heap.size≤b) w (.slice none 0 0) [] from⟨[],⟨rfl,.inl ⟨rfl,rfl⟩⟩,rfl,fun g h=>by cases h⟩);have B0:=aA (But.of (P:=P) (Below.refl w.heap.size w));go_enter Tryz.func40,Tryz.ntmps40;go_wp2_with fail;go_loopw [3] (fun v wr=>∃ (g:Nat) (ks:List Nd) (m:List Tok),Hid (eG f [] l=eG g ks m)∧20*m.length+14≤g∧g≤f∧ks.length≤40∧Hid (jC w.heap.size (fun b=>w.heap.size≤b) wr v ks)∧Hid (PSt P L wr m)∧Hid (But P w wr)) (fun _ wr=>eU P L wr)
 case atStart=>exact⟨f,[],l,(show Hid (_=_) from rfl),hf,Nat.le_refl _,by simp,R0.out,H.out,B0.out⟩
 case round=>
  obtain⟨g,ks,m,hE,hgm,hgf,hk40,hK,hS,hB⟩:=hrel;obtain⟨ao,cap,rfl⟩:=iR hK.out;clear R0 B0 H;obtain⟨g,rfl⟩:∃ g',g=g'+1:=⟨g - 1,by omega⟩
  have hsz:=hB.out.size;have LW:=aA (eO hS.out);by_cases hk:ks.length<40
  ·cases hh:bZ m [125] with
   | true=>
    have HE:=aA (hE.out.trans (uB (by rw [hh];simp)));have HH:=aA (show bZ m (⟨#[125]⟩:ByteArray).data.toList=true from hh);clear hE hh hC;go_wp2_with fail;refine (pP P L m ⟨#[125]⟩ _ hS).mono ?_;rintro e w1 ⟨he1,b1⟩;rw [HH.out] at he1;subst he1;have S1:=aA (hS.out.on b1);have B1:=aA (hB.out.trans (But.of b1));have K1:=aA (bD hK.out b1);have L1:=aA (show eU P L w1=m.length from eO S1.out);clear b1 hS hB hK HH;go_wp2_with fail;go_ret;rw [HE.out];exact⟨⟨_,rfl,jT K1.out⟩,S1.out,B1.out⟩
   | false=>
    have HH:=aA (show bZ m (⟨#[125]⟩:ByteArray).data.toList=false from hh);by_cases h6:(cur m).kind=6
    ·have HE:=aA (hE.out.trans (uB (by rw [h6];simp)));have h6b:((cur m).kind != 6)=false:=by simp [h6]
     clear hE hh hC h6;go_wp2_with fail;refine (pP P L m ⟨#[125]⟩ _ hS).mono ?_;rintro e w1 ⟨he1,b1⟩;rw [HH.out] at he1;subst he1;have S1:=aA (hS.out.on b1);have B1:=aA (hB.out.trans (But.of b1));have K1:=aA (bD hK.out b1);have L1:=aA (show eU P L w1=m.length from eO S1.out);clear b1 hS hB hK HH;go_wp2_with fail;refine (cU P L m _ S1).mono ?_;rintro e w2 ⟨rfl,b2⟩;have S2:=aA (S1.out.on b2);have B2:=aA (B1.out.trans (But.of b2));have K2:=aA (bD K1.out b2);have hfd:=fun (w:World)=>qM (cur m) w
     clear b2 S1 B1 K1;unfold Tok.val;go_wp2_with fail;clear hfd;go_ret;rw [HE.out];exact⟨⟨_,rfl,jT K2.out⟩,S2.out,B2.out⟩
    ·have HE:=aA (hE.out.trans (FW ⟨hk,hh,h6⟩));have h6b:((cur m).kind != 6)=true:=by simp [h6]
     have HC:=aA (fun w' S=>hC g (by omega) P L m w' (by omega) S);have HL:=aA (fun (w':World) (S:PSt P L w' m) (x:Nd) (b:Bool) (l':List Tok) (h:kI g m=.ok x b l')=>JY S h);clear hE hh hC h6;cases hq:kI g m with
     | bad l'=>
      rw [hq] at HC HE;clear HL;go_wp2_with fail;refine (pP P L m ⟨#[125]⟩ _ hS).mono ?_;rintro e w1 ⟨he1,b1⟩;rw [HH.out] at he1;subst he1;have S1:=aA (hS.out.on b1);have B1:=aA (hB.out.trans (But.of b1));have K1:=aA (bD hK.out b1);have L1:=aA (show eU P L w1=m.length from eO S1.out);clear b1 hS hB hK HH;go_wp2_with fail;refine (cU P L m _ S1).mono ?_;rintro e w2 ⟨rfl,b2⟩;have S2:=aA (S1.out.on b2);have B2:=aA (B1.out.trans (But.of b2));have K2:=aA (bD K1.out b2);have hfd:=fun (w:World)=>qM (cur m) w
      clear b2 S1 B1 K1;unfold Tok.val;go_wp2_with fail;clear hfd;refine (HC.out _ S2).mono ?_;rintro e w3 ⟨rfl,s3,b3⟩;have S3:=aA s3;have B3:=aA (B2.out.trans b3);clear s3 b3 S2 B2 K2 HC;unfold aV;go_wp2_with fail;refine⟨rfl,?_⟩;rw [HE.out];exact⟨rfl,S3.out,B3.out⟩
     | ok x b l'=>
      have hl:=HL.out _ hS.out x b l' hq;rw [hq] at HC HE;clear HL;go_wp2_with fail;refine (pP P L m ⟨#[125]⟩ _ hS).mono ?_;rintro e w1 ⟨he1,b1⟩;rw [HH.out] at he1;subst he1;have S1:=aA (hS.out.on b1);have B1:=aA (hB.out.trans (But.of b1));have K1:=aA (bD hK.out b1);have L1:=aA (show eU P L w1=m.length from eO S1.out);clear b1 hS hB hK HH;go_wp2_with fail;refine (cU P L m _ S1).mono ?_;rintro e w2 ⟨rfl,b2⟩;have S2:=aA (S1.out.on b2);have B2:=aA (B1.out.trans (But.of b2));have K2:=aA (bD K1.out b2);have hfd:=fun (w:World)=>qM (cur m) w
      clear b2 S1 B1 K1;unfold Tok.val;go_wp2_with fail;clear hfd;refine (HC.out _ S2).mono ?_;rintro e w3 ⟨⟨nv,kv,rfl,n3⟩,s3,b3⟩;obtain⟨b1,p1,b2,p2,rfl,rfl⟩:=aP n3;have S3:=aA s3;have B3:=aA (B2.out.trans b3);have K3:=aA (dR K2.out b3 (by omega));have hz3:=b3.size;have hz2:=B2.out.size;have HO:=aA (bA K2.out);have Y3:=aA (show wG (Fb (fun b=>w.heap.size≤b) (.slice ao ks.length cap) w3) w3 x (.slice b1 x.names.length p1) (.slice b2 x.kids.length p2) from gU (fun k hk=>⟨⟨by have:=hk.1;omega,hk.2,fun e=>by have:=HO.out k e.symm;have:=hk.1;omega⟩,rfl⟩) _ _ _ n3);clear s3 b3 n3 S2 B2 K2 HC;have AL:=(Below.refl _ w3).alloc (Nat.le_refl _) (.cells (fL x (.slice b1 x.names.length p1) (.slice b2 x.kids.length p2)) 26);have S3':=aA (S3.out.on AL);have B3':=aA (B3.out.trans (But.of AL));have HO3:=aA (bA K3.out);clear AL S3 B3;unfold fR;unfold fL at S3' B3';go_wp2_with (at_builtin;refine Ir rfl _ _ rfl w.heap.size (fun b=>w.heap.size≤b) ks x b1 b2 p1 p2 _ rfl _ (by rfl) K3.out Y3.out _ (by rfl) (by simp) (by omega) (by omega) (fun k hk=>by omega) ?_)
      intro v4 w4 k4 gr4;have hPz:P+1≤w3.heap.size+1:=by omega
      have S4:=aA (eP S3'.out (gG gr4 (by simp;omega) (fun k hk=>by have:=(HO3.out k hk).2.1;omega)));have B4:=aA (show But P w w4 from⟨gr4.os.trans B3'.out.os,gr4.tape.trans B3'.out.tape,gr4.output.trans B3'.out.output,Nat.le_trans B3'.out.size gr4.size,fun k h1 h2=>(gr4.block k (by have:=B3'.out.size;omega) (fun e=>by have:=(HO3.out k e.symm).2.1;omega)).trans (B3'.out.block k h1 h2)⟩);have K4:=aA k4;have HLE:=aA (show eU P L w4<eU P L wr by rw [eO S4.out,LW.out];omega);have HE4:=aA (HE.out.trans (PR.bindL_ok x b l' _));clear k4 gr4 S3' B3' K3 Y3 HO3 HO HE LW L1;go_wp2_with fail;go_roundw
      case rel=>exact⟨g,ks++[x],l',HE4.out,by omega,by omega,by simp;omega,K4.out,S4.out,B4.out⟩
      case measure=>exact HLE.out
  ·have HE:=aA (hE.out.trans (uB (fun h=>hk h.1)));clear hE hC;go_wp2_with fail;go_ret;rw [HE.out];exact⟨⟨_,rfl,jT hK.out⟩,hS.out,hB.out⟩
end Go.Proofs.YtdnnmjhfidimcaaGreatDoor
