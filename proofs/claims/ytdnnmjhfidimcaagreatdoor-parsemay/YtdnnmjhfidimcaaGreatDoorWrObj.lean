/- What stays while the writer writes; objects. -/
import Derived.Test.YtdnnmjhfidimcaaGreatDoorWrMid
import Derived.Test.YtdnnmjhfidimcaaGreatDoorJoint9
import Derived.Deep.RegionHeld3
namespace Go.Proofs.YtdnnmjhfidimcaaGreatDoor
open Go.RowKit
set_option linter.unusedVariables false

theorem mza (B b:Nat) (w:World):Near B b w w.drew:=Izv (Near.refl _ _ _)
theorem azh {B b g:Nat} {w0 a c:World} {k o n:Int} {s:ByteArray} {nv kv:Value} {p:Int} (h:(Near B b w0 a∧Box g k o n s nv kv p a∧g≠b)∧a.cell? ⟨g,0,none⟩=some (.int .i64 k)∧a.cell? ⟨g,1,none⟩=some (.int .i64 o)∧a.cell? ⟨g,2,none⟩=some (.int .i64 n)∧a.cell? ⟨g,3,none⟩=some (.string s)∧a.cell? ⟨g,4,none⟩=some nv∧a.cell? ⟨g,5,none⟩=some kv∧a.cell? ⟨g,6,none⟩=some (.int .i64 p)) (q:Near B b a c) :
  (Near B b w0 c∧Box g k o n s nv kv p c∧g≠b)∧c.cell? ⟨g,0,none⟩=some (.int .i64 k)∧c.cell? ⟨g,1,none⟩=some (.int .i64 o)∧c.cell? ⟨g,2,none⟩=some (.int .i64 n)∧c.cell? ⟨g,3,none⟩=some (.string s)∧c.cell? ⟨g,4,none⟩=some nv∧c.cell? ⟨g,5,none⟩=some kv∧c.cell? ⟨g,6,none⟩=some (.int .i64 p):=by
 obtain⟨⟨h1,h2,h3⟩,_⟩:=h;have hx:=jza h2 h3 q;obtain⟨x0,x1,x2,x3,x4,x5,x6⟩:=hza hx;exact⟨⟨h1.trans q,hx,h3⟩,x0,x1,x2,x3,x4,x5,x6⟩
theorem ozg {B b g:Nat} {w0 a c:World} {k o n:Int} {s:ByteArray} {nv kv:Value} {p:Int} {t u:Nat} {k1 o1 n1:Int} {s1:ByteArray} {nv1 kv1:Value} {p1:Int} (h:(Near B b w0 a∧Box g k o n s nv kv p a∧g≠b∧t<B∧Bza t (u) k1 o1 n1 s1 nv1 kv1 p1 a)∧a.cell? ⟨g,0,none⟩=some (.int .i64 k)∧a.cell? ⟨g,1,none⟩=some (.int .i64 o)∧a.cell? ⟨g,2,none⟩=some (.int .i64 n)∧a.cell? ⟨g,3,none⟩=some (.string s)∧a.cell? ⟨g,4,none⟩=some nv∧a.cell? ⟨g,5,none⟩=some kv∧a.cell? ⟨g,6,none⟩=some (.int .i64 p)∧a.cell? ⟨t,u,none⟩=some (.int .i64 k1)∧a.cell? ⟨t,u+1,none⟩=some (.int .i64 o1)∧a.cell? ⟨t,u+2,none⟩=some (.int .i64 n1)∧a.cell? ⟨t,u+3,none⟩=some (.string s1)∧a.cell? ⟨t,u+4,none⟩=some nv1∧a.cell? ⟨t,u+5,none⟩=some kv1∧a.cell? ⟨t,u+6,none⟩=some (.int .i64 p1)) (q:Near B b a c) :
  (Near B b w0 c∧Box g k o n s nv kv p c∧g≠b∧t<B∧Bza t (u) k1 o1 n1 s1 nv1 kv1 p1 c)∧c.cell? ⟨g,0,none⟩=some (.int .i64 k)∧c.cell? ⟨g,1,none⟩=some (.int .i64 o)∧c.cell? ⟨g,2,none⟩=some (.int .i64 n)∧c.cell? ⟨g,3,none⟩=some (.string s)∧c.cell? ⟨g,4,none⟩=some nv∧c.cell? ⟨g,5,none⟩=some kv∧c.cell? ⟨g,6,none⟩=some (.int .i64 p)∧c.cell? ⟨t,u,none⟩=some (.int .i64 k1)∧c.cell? ⟨t,u+1,none⟩=some (.int .i64 o1)∧c.cell? ⟨t,u+2,none⟩=some (.int .i64 n1)∧c.cell? ⟨t,u+3,none⟩=some (.string s1)∧c.cell? ⟨t,u+4,none⟩=some nv1∧c.cell? ⟨t,u+5,none⟩=some kv1∧c.cell? ⟨t,u+6,none⟩=some (.int .i64 p1):=by
 obtain⟨⟨h1,h2,h3,t0,m0⟩,_⟩:=h;have hx:=jza h2 h3 q;obtain⟨x0,x1,x2,x3,x4,x5,x6⟩:=hza hx;have y0:=eza m0 t0 q.below;obtain⟨z00,z01,z02,z03,z04,z05,z06⟩:=y0;exact⟨⟨h1.trans q,hx,h3,t0,eza m0 t0 q.below⟩,x0,x1,x2,x3,x4,x5,x6,z00,z01,z02,z03,z04,z05,z06⟩
theorem izd {B b g:Nat} {w0 a c:World} {k o n:Int} {s:ByteArray} {nv kv:Value} {p:Int} {t u:Nat} {k1 o1 n1:Int} {s1:ByteArray} {nv1 kv1:Value} {p1:Int} {t2 u2:Nat} {k2 o2 n2:Int} {s2:ByteArray} {nv2 kv2:Value} {p2:Int} (h:(Near B b w0 a∧Box g k o n s nv kv p a∧g≠b∧t<B∧Bza t (u) k1 o1 n1 s1 nv1 kv1 p1 a∧t2<B∧Bza t2 (u2) k2 o2 n2 s2 nv2 kv2 p2 a)∧a.cell? ⟨g,0,none⟩=some (.int .i64 k)∧a.cell? ⟨g,1,none⟩=some (.int .i64 o)∧a.cell? ⟨g,2,none⟩=some (.int .i64 n)∧a.cell? ⟨g,3,none⟩=some (.string s)∧a.cell? ⟨g,4,none⟩=some nv∧a.cell? ⟨g,5,none⟩=some kv∧a.cell? ⟨g,6,none⟩=some (.int .i64 p)∧a.cell? ⟨t,u,none⟩=some (.int .i64 k1)∧a.cell? ⟨t,u+1,none⟩=some (.int .i64 o1)∧a.cell? ⟨t,u+2,none⟩=some (.int .i64 n1)∧a.cell? ⟨t,u+3,none⟩=some (.string s1)∧a.cell? ⟨t,u+4,none⟩=some nv1∧a.cell? ⟨t,u+5,none⟩=some kv1∧a.cell? ⟨t,u+6,none⟩=some (.int .i64 p1)∧a.cell? ⟨t2,u2,none⟩=some (.int .i64 k2)∧a.cell? ⟨t2,u2+1,none⟩=some (.int .i64 o2)∧a.cell? ⟨t2,u2+2,none⟩=some (.int .i64 n2)∧a.cell? ⟨t2,u2+3,none⟩=some (.string s2)∧a.cell? ⟨t2,u2+4,none⟩=some nv2∧a.cell? ⟨t2,u2+5,none⟩=some kv2∧a.cell? ⟨t2,u2+6,none⟩=some (.int .i64 p2)) (q:Near B b a c) :
  (Near B b w0 c∧Box g k o n s nv kv p c∧g≠b∧t<B∧Bza t (u) k1 o1 n1 s1 nv1 kv1 p1 c∧t2<B∧Bza t2 (u2) k2 o2 n2 s2 nv2 kv2 p2 c)∧c.cell? ⟨g,0,none⟩=some (.int .i64 k)∧c.cell? ⟨g,1,none⟩=some (.int .i64 o)∧c.cell? ⟨g,2,none⟩=some (.int .i64 n)∧c.cell? ⟨g,3,none⟩=some (.string s)∧c.cell? ⟨g,4,none⟩=some nv∧c.cell? ⟨g,5,none⟩=some kv∧c.cell? ⟨g,6,none⟩=some (.int .i64 p)∧c.cell? ⟨t,u,none⟩=some (.int .i64 k1)∧c.cell? ⟨t,u+1,none⟩=some (.int .i64 o1)∧c.cell? ⟨t,u+2,none⟩=some (.int .i64 n1)∧c.cell? ⟨t,u+3,none⟩=some (.string s1)∧c.cell? ⟨t,u+4,none⟩=some nv1∧c.cell? ⟨t,u+5,none⟩=some kv1∧c.cell? ⟨t,u+6,none⟩=some (.int .i64 p1)∧c.cell? ⟨t2,u2,none⟩=some (.int .i64 k2)∧c.cell? ⟨t2,u2+1,none⟩=some (.int .i64 o2)∧c.cell? ⟨t2,u2+2,none⟩=some (.int .i64 n2)∧c.cell? ⟨t2,u2+3,none⟩=some (.string s2)∧c.cell? ⟨t2,u2+4,none⟩=some nv2∧c.cell? ⟨t2,u2+5,none⟩=some kv2∧c.cell? ⟨t2,u2+6,none⟩=some (.int .i64 p2):=by
 obtain⟨⟨h1,h2,h3,t0,m0,t1,m1⟩,_⟩:=h;have hx:=jza h2 h3 q;obtain⟨x0,x1,x2,x3,x4,x5,x6⟩:=hza hx;have y0:=eza m0 t0 q.below;obtain⟨z00,z01,z02,z03,z04,z05,z06⟩:=y0;have y1:=eza m1 t1 q.below;obtain⟨z10,z11,z12,z13,z14,z15,z16⟩:=y1;exact⟨⟨h1.trans q,hx,h3,t0,eza m0 t0 q.below,t1,eza m1 t1 q.below⟩,x0,x1,x2,x3,x4,x5,x6,z00,z01,z02,z03,z04,z05,z06,z10,z11,z12,z13,z14,z15,z16⟩

def Ozg:List ByteArray→List Tx→List UInt8
 | s::ns,x::r=>Pzf s x++tzd ns r
 | _,_=>[]
theorem Uzy:∀ (ns:List ByteArray) (l:List Tx),Qzg ns l=[123]++(Ozg ns l++[125])
 | [],_=>by simp [Qzg,Ozg]
 | s::ns,[]=>by simp [Qzg,Ozg]
 | s::ns,x::r=>by simp [Qzg,Ozg]
theorem kzk:∀ (ns:List ByteArray) (l:List Tx) (s:ByteArray) (x:Tx),ns.length=l.length→tzd (ns++[s]) (l++[x])=tzd ns l++([44,32]++Pzf s x)
 | [],[],s,x,_=>by simp [tzd]
 | m::ns,y::l,s,x,h=>by
  have ih:=kzk ns l s x (by simpa using h);simp only [List.cons_append,tzd,ih,List.append_assoc]
 | [],y::l,s,x,h=>by simp at h
 | m::ns,[],s,x,h=>by simp at h
theorem Lzv (ns:List ByteArray) (l:List Tx) (s:ByteArray) (x:Tx) (h:ns.length=l.length) (h0:ns≠[]):Ozg (ns++[s]) (l++[x])=Ozg ns l++([44,32]++Pzf s x):=by
 cases ns with
 | nil=>exact absurd rfl h0
 | cons m ns=>
  cases l with
  | nil=>simp at h
  | cons y l=>
   simp only [List.cons_append,Ozg,kzk ns l s x (by simpa using h),List.append_assoc]
theorem lzk:∀ (ns ms:List ByteArray) (l m:List Tx),ns.length=l.length→(tzd ns l).length≤(tzd (ns++ms) (l++m)).length
 | [],ms,[],m,_=>by simp [tzd]
 | a::ns,ms,y::l,m,h=>by
  have ih:=lzk ns ms l m (by simpa using h);simp only [List.cons_append,tzd,List.length_cons,List.length_append];omega
 | [],_,y::l,_,h=>by simp at h
 | a::ns,_,[],_,h=>by simp at h
theorem Yzn (ns ms:List ByteArray) (l m:List Tx) (h:ns.length=l.length):(Ozg ns l).length≤(Ozg (ns++ms) (l++m)).length:=by
 cases ns with
 | nil=>simp [Ozg]
 | cons a ns=>
  cases l with
  | nil=>simp at h
  | cons y l=>
   have:=lzk ns ms l m (by simpa using h);simp only [List.cons_append,Ozg,List.length_append];omega

theorem Jzk {B b:Nat} {w a c:World} {o n:Int} {s:ByteArray} {N L q1 q2:Nat} {a2:Option Addr} {p:Int} {v vo vj:Nat} {m:ByteArray}
  (h:(Near B b w a∧Box w.heap.size 7 o n s (.slice (some ⟨v,vo,none⟩) N q1) (.slice a2 L q2) p a∧w.heap.size≠b∧v<B)∧a.cell? ⟨w.heap.size,4,none⟩=some (.slice (some ⟨v,vo,none⟩) N q1)∧a.cell? ⟨v,vj,none⟩=some (.string m)) (q:Near B b a c):(Near B b w c∧Box w.heap.size 7 o n s (.slice (some ⟨v,vo,none⟩) N q1) (.slice a2 L q2) p c∧w.heap.size≠b∧v<B)∧c.cell? ⟨w.heap.size,4,none⟩=some (.slice (some ⟨v,vo,none⟩) N q1)∧c.cell? ⟨v,vj,none⟩=some (.string m):=by
 obtain⟨⟨h1,h2,h3,h4⟩,_,c1⟩:=h;have hx:=jza h2 h3 q;exact⟨⟨h1.trans q,hx,h3,h4⟩,(hza hx).2.2.2.2.1,pzb q.below h4 c1⟩

set_option maxHeartbeats 3200000 in
theorem czp (o n:Int) (s:ByteArray) (ns:List ByteArray) (ks:List Nd) (p:Int) (a1:Option Addr) (q1:Nat) (a2:Option Addr) (q2:Nat) (hnk:ns.length=ks.length) (hx:∀ z∈ks,tzb z) (hr:∀ z∈ks,rightN z 1=true) (hnm:∀ z∈ns,Izb z=true) (hns:∀ z∈ns,z.size≤100) (B b:Nat) (l:List UInt8) (w:World)
  (W:Hid (Wr B b l w)) (O:Hid (Ok B w)) (SI:Hid (azb B (.slice a1 ns.length q1) ns w)) (KI:Hid (Bzb B w (.slice a2 ks.length q2) ks)) (hs:∀ z∈ks,Ozb z=true) (hc:Vza ks≤1000000) (hl:l.length+(Qzg ns (ks.map textN)).length≤100000000) :
  Calls Tryz.prog 141 #[.pointer (some ⟨b,0,none⟩),.agg #[.int .i64 7,.int .i64 o,.int .i64 n,.string s,.slice a1 ns.length q1,.slice a2 ks.length q2,.int .i64 p]] w (qzd B b l (Qzg ns (ks.map textN)) w):=by
 obtain⟨ao,cap,e1,hks⟩:=lzc KI.out;injection e1 with e1a _ e1c;subst e1a e1c;obtain⟨ao',cap',e2,hss⟩:=Ozc SI.out;injection e2 with e2a _ e2c;subst e2a e2c;have KS:=hid hks;have SS:=hid hss;have HX:=hid hx;have HR:=hid hr;have HS:=hid hs;have HM:=hid hnm;have HMS:=hid hns;have HNK:=hid hnk;have hlen:=Uzb ks;have hlt:=Wzb W.out;have hB:=O.out.1;have HT:=hid (Uzy ns (ks.map textN));have hll:l.length+(Ozg ns (ks.map textN)).length+2≤100000000:=by
  rw [HT.out] at hl;simp only [List.length_append,List.length_cons,List.length_nil] at hl;omega
 have hal:=yza w (.cells #[.int .i64 7,.int .i64 o,.int .i64 n,.string s,.slice a1 ns.length q1,.slice a2 ks.length q2,.int .i64 p] 26);have N0:=hid (show Near B b w _ from Near.ofBelow hal hB);have W0:=hid (Jza W.out hal);have X0:=hid (Wza w 7 o n s (.slice a1 ns.length q1) (.slice a2 ks.length q2) p);clear hks hss hx hr hs hnm hns hnk KI SI hl hal W;go_enter Tryz.func141,Tryz.ntmps141;go_wp2_with fail;refine (mzb 123 _ rfl W0 (by omega)).mono ?_;rintro e w1 ⟨rfl,l1,hW,hw,nn,_⟩;have W1:=hid hW;have R1:=hid hw;have N1:=hid (N0.out.trans nn);have X1:=hid (jza X0.out (by omega) nn);obtain⟨y0,y1,y2,y3,y4,y5,y6⟩:=hza X1.out;clear hW hw nn N0 W0 X0;go_wp2_with fail;go_loopw [13] (fun i wr=>∃ (j:Nat) (lj:List UInt8),j≤ks.length∧i=.int .i64 j∧Wr B b lj wr∧WroteT l ([123]++Ozg (ns.take j) ((ks.map textN).take j)) lj∧Near B b w wr∧Box w.heap.size 7 o n s (.slice a1 ns.length q1) (.slice a2 ks.length q2) p wr) (fun i _=>ks.length - (intOf i).toNat)
 case atStart=>exact⟨0,l1,Nat.zero_le _,rfl,W1.out,by simpa [Ozg] using R1.out,N1.out,X1.out⟩
 case round=>
  clear W1 R1 N1 X1 y0 y1 y2 y3 y4 y5 y6;obtain⟨j,lj,hj,rfl,hW,hw,hn,hbx⟩:=hrel;have hlj:=lza hw;have hmono:=Yzn (ns.take j) (ns.drop j) ((ks.map textN).take j) ((ks.map textN).drop j) (by have:=HNK.out;simp;omega);rw [List.take_append_drop,List.take_append_drop] at hmono;simp only [List.length_append,List.length_cons,List.length_nil] at hlj;by_cases hjl:j<ks.length
  ·obtain⟨t,off,rfl,htB,hat⟩:=KS.out.resolve_left (fun h=>by rw [h] at hjl;cases hjl);have hjn:j<ns.length:=by have:=HNK.out;omega
   obtain⟨v,vo,rfl,hvB,hvat⟩:=SS.out.resolve_left (fun h=>by rw [h] at hjn;cases hjn);have hat':=Yzc hn.below htB _ _ hat;have cv:=pzb hn.below hvB (hvat j hjn);obtain⟨nv',kv',hnode,hin⟩:=Vzc hat' j hjl;obtain⟨c0,c1,c2,c3,c4,c5,c6⟩:=hnode;have hm:=List.getElem_mem hjl;have hmn:=List.getElem_mem hjn;have hx:=HX.out _ hm;have hF:Fit B ks[j] nv' kv' 1 wr:=⟨hin,HR.out _ hm,HS.out _ hm,Nat.le_trans (Yzd hm) hc⟩
   have hmono1:=Yzn (ns.take (j+1)) (ns.drop (j+1)) ((ks.map textN).take (j+1)) ((ks.map textN).drop (j+1)) (by have:=HNK.out;simp;omega);rw [List.take_append_drop,List.take_append_drop] at hmono1;have HTT:=hid (Zzi ks j hjl);have HTN:=hid (List.take_succ_eq_append_getElem (l:=ns) (i:=j) hjn);rw [HTT.out,HTN.out] at hmono1;have hm0:ns[j].data.toList≠[]:=by
    have:=HM.out _ hmn;unfold Izb at this;intro e;rw [e] at this;cases this
   have hm1:=HMS.out _ hmn;have hmsz:ns[j].data.toList.length=ns[j].size:=by simp
   generalize ks[j]=x at *
   generalize ns[j]=m at *
   have HM0:=hid hm0;have HMZ:=hid hmsz;clear hm0 hmsz;obtain⟨b1,r1,b2,r2,rfl,rfl⟩:=Zza hin;have hsz:w.heap.size≤wr.heap.size:=hn.below.size;have HXx:=hid hx;have htw:t<wr.heap.size:=by omega
   have hvw:v<wr.heap.size:=by omega
   have hgw:w.heap.size<wr.heap.size:=gzo hbx;have hal:=yza wr (.cells #[.int .i64 x.kind,.int .i64 x.op,.int .i64 x.num,.string x.str,.slice b1 x.names.length r1,.slice b2 x.kids.length r2,.int .i64 x.pl] 26);have nal:Near B b wr _:=Near.ofBelow hal hW.2;have W2:=hid (Jza hW hal);have N2:=hid (hn.trans nal);have O2:=hid (nza O.out N2.out.below);have F2:=hid (cza hF nal);have X2:=hid (Wza wr x.kind x.op x.num x.str (.slice b1 x.names.length r1) (.slice b2 x.kids.length r2) x.pl);have Y2:=hid (jza hbx (by omega) nal);have V2:=hid (pzb nal.below hvB cv);have R2:=hid hw;have hbw:b<wr.heap.size:=Wzb hW;have hgb:w.heap.size≠b:=by omega
   clear hal nal hF hx hin hat hat' hvat hW hw hn hbx KS SS;by_cases hj0:j=0
   ·subst hj0;simp only [Nat.zero_mul,Nat.add_zero] at c0 c1 c2 c3 c4 c5 c6 cv V2;have RR:=hid (show WroteT l [123] lj by simpa [Ozg] using R2.out);have E:=hid (show [123]++m.data.toList++[58,32]++(textN x).e=[123]++Ozg (ns.take (0+1)) ((ks.map textN).take (0+1)) by rw [HTT.out,HTN.out];simp [Ozg,Pzf,tzd]);have hb1:m.size+2+(textN x).e.length≤(Ozg ns (ks.map textN)).length:=by
     have h1:(Ozg (List.take 0 ns++[m]) (List.take 0 (ks.map textN)++[textN x])).length=m.data.toList.length+2+(textN x).e.length:=by simp [Ozg,Pzf,tzd];omega
     rw [HMZ.out] at h1;omega
    have hl0:lj.length≤l.length+1:=by simpa using lza RR.out
    clear R2 hlj hmono hmono1;have S0:Hid ((Near B b w (wr.alloc (.cells #[.int .i64 x.kind,.int .i64 x.op,.int .i64 x.num,.string x.str,.slice b1 x.names.length r1,.slice b2 x.kids.length r2,.int .i64 x.pl] 26))∧Box w.heap.size 7 o n s (.slice (some ⟨v,vo,none⟩) ns.length q1) (.slice (some ⟨t,off,none⟩) ks.length q2) p (wr.alloc (.cells #[.int .i64 x.kind,.int .i64 x.op,.int .i64 x.num,.string x.str,.slice b1 x.names.length r1,.slice b2 x.kids.length r2,.int .i64 x.pl] 26))∧w.heap.size≠b∧v<B)∧(wr.alloc (.cells #[.int .i64 x.kind,.int .i64 x.op,.int .i64 x.num,.string x.str,.slice b1 x.names.length r1,.slice b2 x.kids.length r2,.int .i64 x.pl] 26)).cell? ⟨w.heap.size,4,none⟩=some (.slice (some ⟨v,vo,none⟩) ns.length q1)∧(wr.alloc (.cells #[.int .i64 x.kind,.int .i64 x.op,.int .i64 x.num,.string x.str,.slice b1 x.names.length r1,.slice b2 x.kids.length r2,.int .i64 x.pl] 26)).cell? ⟨v,vo,none⟩=some (.string m)):=⟨⟨N2.out,Y2.out,hgb,hvB⟩,(hza Y2.out).2.2.2.2.1,V2.out⟩
    go_wp2_with fail;go_region_held3 (fun a=>(Near B b w a∧Box w.heap.size 7 o n s (.slice (some ⟨v,vo,none⟩) ns.length q1) (.slice (some ⟨t,off,none⟩) ks.length q2) p a∧w.heap.size≠b∧v<B)∧a.cell? ⟨w.heap.size,4,none⟩=some (.slice (some ⟨v,vo,none⟩) ns.length q1)∧a.cell? ⟨v,vo,none⟩=some (.string m))
     (first | exact Jzk (by assumption) n4 | exact Jzk S0.out (mza _ _ _) | exact Jzk (by assumption) (mza _ _ _))
     (first
      | (go_at_call 74;refine (Fzb m (by simp [HM0.out]) (hid (Qzd W2.out)) (by omega) (by omega)).mono ?_;rintro e wx ⟨rfl,l4,hW4,hw4,n4,ne4⟩))
    rename_i hz;have nn4:=(mza B b _).trans n4;have W4:=hid hW4;have R4:=hid (RR.out.trans hw4);have N4:=hid (N2.out.trans nn4);have O4:=hid (nza O2.out nn4.below);have F4:=hid (cza F2.out nn4);have X4:=hid (jza X2.out (by omega) nn4);have Y4:=hid (jza Y2.out (by omega) nn4);have hl4:l4.length≤lj.length+m.data.toList.length:=lza hw4;rw [HMZ.out] at hl4;clear hz hW4 hw4 n4 nn4 S0 W2 O2 F2 X2 Y2 N2 RR;go_wp2_with fail;refine (Fzb ⟨#[58,32]⟩ (by simp) W4 (by omega) (by decide)).mono ?_;rintro e w5 ⟨rfl,l5,hW5,hw5,n5,_⟩;have W5:=hid hW5;have R5:=hid (R4.out.trans hw5);have N5:=hid (N4.out.trans n5);have O5:=hid (nza O4.out n5.below);have F5:=hid (cza F4.out n5);have Y5:=hid (jza Y4.out (by omega) n5);obtain⟨d0,d1,d2,d3,d4,d5,d6⟩:=hza (jza X4.out (by omega) n5);have hl5:l5.length≤l4.length+2:=by simpa using lza hw5
    clear hW5 hw5 n5 W4 O4 F4 X4 Y4 N4 R4;go_wp2_with fail;refine (HXx.out B b _ _ _ _ W5 O5 (hid F5.out.1) F5.out.2.1 F5.out.2.2.1 F5.out.2.2.2 (by omega)).mono ?_;rintro e w6 ⟨rfl,l6,hW6,hw6,n6⟩;have W6:=hid hW6;have R6:=hid ((R5.out.trans hw6).of E.out);have N6:=hid (N5.out.trans n6);have Y6:=hid (jza Y5.out (by omega) n6);clear hW6 hw6 n6 W5 O5 F5 N5 R5 Y5 E d0 d1 d2 d3 d4 d5 d6;go_wp2_with fail;go_roundw
    case rel=>exact⟨0+1,l6,by omega,by go_num,W6.out,R6.out,N6.out,Y6.out⟩
    case measure=>simp [intOf];omega
   ·have E0:=hid (Lzv (ns.take j) ((ks.map textN).take j) m (textN x) (by have:=HNK.out;simp;omega) (bzp (by omega) hjn));have E:=hid (show ([123]++Ozg (ns.take j) ((ks.map textN).take j))++[44,32]++m.data.toList++[58,32]++(textN x).e=[123]++Ozg (ns.take (j+1)) ((ks.map textN).take (j+1)) by rw [HTT.out,HTN.out,E0.out];simp only [Pzf,List.append_assoc,List.cons_append,List.nil_append]);rw [E0.out] at hmono1;simp only [Pzf,List.length_append,List.length_cons,List.length_nil] at hmono1;rw [HMZ.out] at hmono1;have dj:decide ((0:Int)<(j:Int))=true:=decide_eq_true (by omega);clear E0;go_wp2_with fail;refine (Fzb ⟨#[44,32]⟩ (by simp) W2 (by omega) (by decide)).mono ?_;rintro e w3 ⟨rfl,l3,hW3,hw3,n3,_⟩;have W3:=hid hW3;have R3:=hid (R2.out.trans hw3);have N3:=hid (N2.out.trans n3);have O3:=hid (nza O2.out n3.below);have F3:=hid (cza F2.out n3);have X3:=hid (jza X2.out (by omega) n3);have Y3:=hid (jza Y2.out (by omega) n3);have V3:=hid (pzb n3.below hvB V2.out);have hl3:l3.length≤lj.length+2:=by simpa using lza hw3
    clear hW3 hw3 n3 W2 O2 F2 X2 Y2 V2 N2 R2;have S0:Hid ((Near B b w w3∧Box w.heap.size 7 o n s (.slice (some ⟨v,vo,none⟩) ns.length q1) (.slice (some ⟨t,off,none⟩) ks.length q2) p w3∧w.heap.size≠b∧v<B)∧w3.cell? ⟨w.heap.size,4,none⟩=some (.slice (some ⟨v,vo,none⟩) ns.length q1)∧w3.cell? ⟨v,vo+j,none⟩=some (.string m)):=⟨⟨N3.out,Y3.out,hgb,hvB⟩,(hza Y3.out).2.2.2.2.1,V3.out⟩
    go_wp2_with fail;go_region_held3 (fun a=>(Near B b w a∧Box w.heap.size 7 o n s (.slice (some ⟨v,vo,none⟩) ns.length q1) (.slice (some ⟨t,off,none⟩) ks.length q2) p a∧w.heap.size≠b∧v<B)∧a.cell? ⟨w.heap.size,4,none⟩=some (.slice (some ⟨v,vo,none⟩) ns.length q1)∧a.cell? ⟨v,vo+j,none⟩=some (.string m))
     (first | exact Jzk (by assumption) n4 | exact Jzk S0.out (mza _ _ _) | exact Jzk (by assumption) (mza _ _ _))
     (first
      | (go_at_call 74;refine (Fzb m (by simp [HM0.out]) (hid (Qzd W3.out)) (by omega) (by omega)).mono ?_;rintro e wx ⟨rfl,l4,hW4,hw4,n4,ne4⟩))
    rename_i hz;have nn4:=(mza B b _).trans n4;have W4:=hid hW4;have R4:=hid (R3.out.trans hw4);have N4:=hid (N3.out.trans nn4);have O4:=hid (nza O3.out nn4.below);have F4:=hid (cza F3.out nn4);have X4:=hid (jza X3.out (by omega) nn4);have Y4:=hid (jza Y3.out (by omega) nn4);have hl4:l4.length≤l3.length+m.data.toList.length:=lza hw4;rw [HMZ.out] at hl4;clear hz hW4 hw4 n4 nn4 S0 W3 O3 F3 X3 Y3 N3 R3;go_wp2_with fail;refine (Fzb ⟨#[58,32]⟩ (by simp) W4 (by omega) (by decide)).mono ?_;rintro e w5 ⟨rfl,l5,hW5,hw5,n5,_⟩;have W5:=hid hW5;have R5:=hid (R4.out.trans hw5);have N5:=hid (N4.out.trans n5);have O5:=hid (nza O4.out n5.below);have F5:=hid (cza F4.out n5);have Y5:=hid (jza Y4.out (by omega) n5);obtain⟨d0,d1,d2,d3,d4,d5,d6⟩:=hza (jza X4.out (by omega) n5);have hl5:l5.length≤l4.length+2:=by simpa using lza hw5
    clear hW5 hw5 n5 W4 O4 F4 X4 Y4 N4 R4;go_wp2_with fail;refine (HXx.out B b _ _ _ _ W5 O5 (hid F5.out.1) F5.out.2.1 F5.out.2.2.1 F5.out.2.2.2 (by omega)).mono ?_;rintro e w6 ⟨rfl,l6,hW6,hw6,n6⟩;have W6:=hid hW6;have R6:=hid ((R5.out.trans hw6).of E.out);have N6:=hid (N5.out.trans n6);have Y6:=hid (jza Y5.out (by omega) n6);clear hW6 hw6 n6 W5 O5 F5 N5 R5 Y5 E d0 d1 d2 d3 d4 d5 d6;go_wp2_with fail;go_roundw
    case rel=>exact⟨j+1,l6,by omega,by go_num,W6.out,R6.out,N6.out,Y6.out⟩
    case measure=>simp [intOf];omega
  ·have e:(ks.map textN).take j=ks.map textN:=List.take_of_length_le (by simp;omega);have e':ns.take j=ns:=List.take_of_length_le (by have:=HNK.out;omega);rw [e,e'] at hw;have W2:=hid hW;have R2:=hid hw;have N2:=hid hn;clear hW hw hn hbx e e';go_wp2_with fail;refine (mzb 125 _ rfl W2 (by omega)).mono ?_;rintro e w3 ⟨rfl,l3,hW3,hw3,n3,_⟩;have D:=hid (zza hW3 (R2.out.trans hw3) (show [123]++Ozg ns (ks.map textN)++[125]=Qzg ns (ks.map textN) by rw [HT.out,List.append_assoc]) (N2.out.trans n3));clear hW3 hw3 n3;go_wp2_with fail;go_end0
   exact D.out

end Go.Proofs.YtdnnmjhfidimcaaGreatDoor
