/- All of the parser, by induction over the fuel. The tokens of a text, as the parser has them. The two rules; and what catches. -/
import Derived.Test.YtdnnmjhfidimcaaGreatDoorJoint25
import Derived.Test.YtdnnmjhfidimcaaGreatDoorPsFn
import Derived.Test.YtdnnmjhfidimcaaGreatDoorJoint21
import Derived.Test.YtdnnmjhfidimcaaGreatDoorJoint17
import Derived.Test.YtdnnmjhfidimcaaGreatDoorJoint31
import Derived.Test.YtdnnmjhfidimcaaGreatDoorPsMem
import Derived.Test.YtdnnmjhfidimcaaGreatDoorJoint2
import Derived.Test.YtdnnmjhfidimcaaGreatDoorJoint3
import Derived.Test.YtdnnmjhfidimcaaGreatDoorJoint8
import Derived.Test.YtdnnmjhfidimcaaGreatDoorPsMay
import Derived.Defers
import Derived.Recover
namespace Go.Proofs.YtdnnmjhfidimcaaGreatDoor
set_option maxRecDepth 100000
set_option maxHeartbeats 6400000
open Go.RowKit
theorem Ei (f:Nat) (hR:gS f) (hP:BE f):Cy (f+1):=by
 intro P L l w hf H;cases l with
 | nil=>exact absurd rfl H.out.ne
 | cons t q=>
  have hf1:20*q.length+10≤f:=by simp at hf;omega
  have hf2:20*(t::q).length+10≤f:=by omega
  rw [iK];by_cases h1:bZ (t::q) [108,101,116]=true
  ·rw [if_pos h1];exact Km f hR P L t q w hf1 H h1
  ·rw [if_neg h1];have n1:bZ (t::q) [108,101,116]=false:=by simpa using h1
   by_cases h2:bZ (t::q) [112,114,105,110,116]=true
   ·rw [if_pos h2];exact Eb f hR P L t q w hf1 H n1 h2
   ·rw [if_neg h2];have n2:bZ (t::q) [112,114,105,110,116]=false:=by simpa using h2
    by_cases h3:bZ (t::q) [114,101,116,117,114,110]=true
    ·rw [if_pos h3];exact CB f hR P L t q w hf1 H n1 n2 h3
    ·rw [if_neg h3];have n3:bZ (t::q) [114,101,116,117,114,110]=false:=by simpa using h3
     by_cases h4:bZ (t::q) [100,101,108,101,116,101]=true
     ·rw [if_pos h4];exact Kn f hP P L t q w (by omega) H n1 n2 n3 h4
     ·rw [if_neg h4];have n4:bZ (t::q) [100,101,108,101,116,101]=false:=by simpa using h4
      generalize t::q=l at *
      cases hq:aS f 1 l with
      | bad l'=>
       rw [PR.bind_bad];exact Ko f hR P L l w hf2 H n1 n2 n3 n4 l' hq
      | ok x b l'=>
       rw [PR.bind_ok];by_cases hn:b=true∧bZ l' [61]=true
       ·rw [if_pos hn];obtain⟨hb,hh⟩:=hn;subst hb;obtain⟨u,z,hz,hu⟩:=aX hh;rw [show l'.tail=z by rw [hz];rfl];cases hr:aS f 1 z with
        | bad l3=>
         rw [PR.bind_bad];exact CE f hR P L l w hf2 H n1 n2 n3 n4 x u z l' hz hq hu l3 hr
        | ok y c l3=>
         rw [PR.bind_ok];exact Kr f hR P L l w hf2 H n1 n2 n3 n4 x u z l' hz hq hu y c l3 hr
       ·rw [if_neg hn];exact Gl f hR P L l w hf2 H n1 n2 n3 n4 x b l' hq hn
structure QK (f:Nat):Prop where
 rank:gS f
 post:BE f
 atom:LT f
 call:Ip f
 ask:Be f
 short:Cy f
 stmt:It f
 stmts:zW f
 block:oM f
theorem Ou:QK 0 where
 rank:=fun r P L l w h1 h7 hf=>absurd hf (by omega)
 post:=fun P L l w hf=>absurd hf (by omega)
 atom:=fun P L l w hf=>absurd hf (by omega)
 call:=fun P L l ok x nv kv w hf=>absurd hf (by omega)
 ask:=fun P L l w hf=>absurd hf (by omega)
 short:=fun P L l w hf=>absurd hf (by omega)
 stmt:=fun P L l w hf=>absurd hf (by omega)
 stmts:=fun P L l w hf=>absurd hf (by omega)
 block:=fun P L l w hf=>absurd hf (by omega)
theorem Ov (f:Nat) (hR:∀ g,g≤f→gS g):PM f:=by
 by_cases h:2≤f
 ·obtain⟨f,rfl⟩:∃ g,f=g+2:=⟨f - 2,by omega⟩
  exact Kv f (fun g hg=>hR g (by omega))
 ·exact fun P L l w hf=>absurd hf (by omega)
theorem Ow (f:Nat) (h:∀ g,g≤f→QK g):QK (f+1):=by
 have hs:It (f+1):=FV f (h f (Nat.le_refl _)).ask (h f (Nat.le_refl _)).block (h f (Nat.le_refl _)).short;exact {
  rank:=KA f (fun g hg=>(h g hg).rank) (h f (Nat.le_refl _)).post
  post:=fun P L l w hf H=>by
   rw [kG];exact FQ f (h f (Nat.le_refl _)).atom (fun g hg=>(h g hg).rank) (fun g hg=>(h g hg).call) P L l w (by omega) H
  atom:=Gg f (h f (Nat.le_refl _)).rank (Ov f (fun g hg=>(h g hg).rank)) (MB f (h f (Nat.le_refl _)).block) (PV f (h f (Nat.le_refl _)).rank)
  call:=Gk f (fun g hg P kb pb lo L ok C=>Ea g (h g hg).rank P kb pb lo L ok C)
  ask:=JS f (h f (Nat.le_refl _)).rank
  short:=Ei f (h f (Nat.le_refl _)).rank (h f (Nat.le_refl _)).post
  stmt:=hs
  stmts:=DV (f+1) (fun g hg=>by
   rcases Nat.lt_or_ge f g with h1 | h1
   ·obtain rfl:g=f+1:=by omega
    exact hs
   ·exact (h g h1).stmt)
  block:=DU f (h f (Nat.le_refl _)).stmts }
theorem PW:∀ f:Nat,QK f:=by
 intro f;induction f using Nat.strongRecOn with
 | _ f ih=>
  cases f with
  | zero=>exact Ou
  | succ f=>exact Ow f (fun g hg=>ih g (by omega))
theorem Bf (f P:Nat) (L l:List Tok) (w:World) (hf:20*l.length+14≤f) (H:Hid (PSt P L w l)) :
  Calls Tryz.prog 21 #[.pointer (some ⟨P,0,none⟩)] w (bR P L w ((eG f [] l).bind fun _ ks l=>.ok (hJ 29 ks) false l)):=
 FS f (PW f).stmts P L l w hf H
theorem IF (s:ByteArray):∀ (f k:Nat) (acc out:List Tok) (p:Nat),jI s f k acc=(out,p,0)→(∀ t∈acc,t.kind≠6)→acc.length≤600→
  out=[]∨∃ fr e,out=fr++[e]∧e.kind=6∧(∀ t∈fr,t.kind≠6)∧fr.length≤600
 | 0,k,acc,out,p,h,_,_=>by
  rw [jI] at h;injection h with h1 _;exact .inl h1.symm
 | f+1,k,acc,out,p,h,ha,hl=>by
  rw [jI] at h;split at h
  ·injection h with h1 _;exact .inr ⟨acc,_,h1.symm,rfl,ha,hl⟩
  ·split at h
   ·injection h with h1 _;exact .inl h1.symm
   ·split at h
    ·injection h with h1 _;exact .inl h1.symm
    ·rename_i h2 h3;have h4:=BO (l:=s.data.toList.drop k) (k:=k) (by simpa using h2);refine IF s f _ _ out p h (fun t ht=>?_) (by simp;omega);rcases List.mem_append.1 ht with h5 | h5
     ·exact ha t h5
     ·rw [List.mem_singleton.1 h5];exact h4.2.1
theorem wQ {s:ByteArray} (h:(tokOut s).2.2=0):TokOk (tokOut s).1:=by
 have he:tokOut s=((tokOut s).1,(tokOut s).2.1,0):=by rw [← h]
 obtain⟨⟨t,ht,_⟩,_⟩:=Oy he;have hg:(tokOut s).1=[]∨∃ fr e,(tokOut s).1=fr++[e]∧e.kind=6∧(∀ t∈fr,t.kind≠6)∧fr.length≤600:=by
  generalize hL:(tokOut s).1=L at *
  generalize hp:(tokOut s).2.1=p at *
  unfold tokOut at he;split at he
  ·injection he with h1 _;exact .inl h1.symm
  ·exact IF s _ _ _ _ _ he (by simp) (by simp)
 rcases hg with h0 | ⟨fr,e,h1,h2,h3,h4⟩
 ·rw [h0] at ht;cases ht
 ·exact⟨wN s,by rw [h1];simp;omega,fr,e,h1,h2,h3⟩
theorem Ap {L:List Tok} (h:TokOk L):L≠[]:=by
 obtain⟨f,e,rfl,_⟩:=h.last;simp
theorem vM:∀ (L:List Tok) (i:Nat) (h:i<L.length),(fV L)[i*4]? = some (.int .i64 L[i].kind)∧(fV L)[i*4+1]? = some (.string L[i].text)∧(fV L)[i*4+2]? = some (.int .i64 L[i].num)∧(fV L)[i*4+3]? = some (.int .i64 L[i].pl)
 | t::L,0,_=>by simp [fV,Tok.cells]
 | t::L,i+1,h=>by
  have ih:=vM L i (by simpa using h);have e:∀ j,(fV (t::L))[(i+1)*4+j]? = (fV L)[i*4+j]?:=by
   intro j;rw [show fV (t::L)=t.cells++fV L from rfl,List.getElem?_append_right (by simp [Tok.cells];omega)];simp only [Tok.cells,List.length_cons,List.length_nil];congr 1;omega
  have e0:=e 0;rw [Nat.add_zero,Nat.add_zero] at e0;rw [e0,e 1,e 2,e 3];simpa using ih
theorem BU {T:TypeId} {B:Nat} {v:Value} {L:List Tok} {w:World} (h:NU T B v L w) (hne:L≠[]):∃ R cap,v=.slice (some ⟨R,0,none⟩) L.length cap∧L.length≤cap∧B≤R∧R<w.heap.size∧zI R L w:=by
 rcases h.2 with ⟨_,h2⟩ | ⟨g,cap,cur,h1,h2,h3,h4,h5,h6,h7⟩
 ·exact absurd (List.length_eq_zero_iff.1 h2) hne
 ·have hb:dP g T cur w:=h3;refine⟨g,cap,h1,h4,h2,aF hb,fun i hi=>?_⟩;have hc:∀ j,j<4→w.cell? ⟨g,i*4+j,none⟩=(fV L)[i*4+j]?:=by
   intro j hj;rw [aB hb,← h7,List.getElem?_take,if_pos (by omega),Array.getElem?_toList]
  have e0:=hc 0 (by omega);have e1:=hc 1 (by omega);have e2:=hc 2 (by omega);have e3:=hc 3 (by omega);rw [Nat.add_zero] at e0;obtain⟨f0,f1,f2,f3⟩:=vM L i hi;exact⟨e0.trans f0,e1.trans f1,e2.trans f2,e3.trans f3⟩
theorem KQ (P:Nat) (L l:List Tok) (w:World) (o:PR) (H:Hid (PSt P L w l)) (HC:Hid (∀ w',Hid (PSt P L w' l)→Calls Tryz.prog 21 #[.pointer (some ⟨P,0,none⟩)] w' (bR P L w' o))) :
  Calls Tryz.prog 20 #[.pointer (some ⟨P,0,none⟩)] w (bR P L w o):=by
 have A:=aA ((Below.refl _ w).alloc (Nat.le_refl _) (.cells #[.int .i64 0,.int .i64 0,.int .i64 0,.string ⟨#[]⟩,.slice none 0 0,.slice none 0 0,.int .i64 0] 26));have S0:=aA (H.out.on A.out);have G0:=aA (aI w 26 #[.int .i64 0,.int .i64 0,.int .i64 0,.string ⟨#[]⟩,.slice none 0 0,.slice none 0 0,.int .i64 0]);have hP:=H.out.lt;clear H;cases o with
 | bad l'=>
  go_enter Tryz.func20,Tryz.ntmps20;go_wp2_with fail;refine (HC.out _ S0).mono ?_;rintro e w2 ⟨rfl,s2,b2⟩;have S9:=aA s2;have B9:=aA ((But.of A.out).trans b2);clear s2 b2 S0 A G0 HC;unfold aV;go_wp2_with fail;exact⟨rfl,rfl,S9.out,B9.out⟩
 | ok x b l'=>
  go_enter Tryz.func20,Tryz.ntmps20;go_wp2_with fail;refine (HC.out _ S0).mono ?_;rintro e w2 ⟨⟨nv,kv,rfl,n2⟩,s2,b2⟩;obtain⟨a1,q1,a2,q2,rfl,rfl⟩:=aP n2;have S2:=aA s2;have B2:=aA ((But.of (P:=P) A.out).trans b2);have G2:=aA (aD G0.out b2 (by omega));have N2:=aA (bE (lo':=w.heap.size+1) (by simp) n2);clear s2 b2 n2 S0 A G0 HC;unfold fR;obtain⟨r0,r1,r2,r3,r4,r5,r6⟩:=aN G2.out;obtain⟨u0,u1,u2,u3,u4,u5,u6⟩:=bP G2.out;have hg2:=aF G2.out;go_wp2_with fail;have Z:=bS hP (Nat.le_refl _) S2.out B2.out G2.out (.int .i64 x.kind) (.int .i64 x.op) (.int .i64 x.num) (.string x.str) (.slice a1 x.names.length q1) (.slice a2 x.kids.length q2) (.int .i64 x.pl);have NN:=bE (Nat.le_succ _) (aY (cV w2 (Nat.lt_succ_self _) (.int .i64 x.kind) (.int .i64 x.op) (.int .i64 x.num) (.string x.str) (.slice a1 x.names.length q1) (.slice a2 x.kids.length q2) (.int .i64 x.pl)) N2.out);exact bodyPost_ret (cJ rfl rfl Z.1) rfl ⟨⟨_,_,rfl,NN⟩,Z.2.1,Z.2.2⟩
structure Three (a c:World) (nb ab eb:Nat) (cs:Array Value) (x y:Value):Prop where
 gn:dP nb 26 cs c
 ga:dP ab 3 #[x] c
 ge:dP eb 27 #[y] c
 size:c.heap.size=a.heap.size
 os:c.os=a.os∧c.tape=a.tape∧c.output=a.output
 rest:∀ k,k≠nb→k≠ab→k≠eb→c.heap[k]? = a.heap[k]?
theorem yN {a:World} {nb ab eb:Nat} {cs:Array Value} {y0 y1:Value} (h1:dP nb 26 cs a) (h2:dP ab 3 #[y0] a) (h3:dP eb 27 #[y1] a) (hna:nb≠ab) (hne:nb≠eb) (hae:ab≠eb) (x y:Value) :
  Three a ((a.setCell ⟨ab,0,none⟩ x).setCell ⟨eb,0,none⟩ y) nb ab eb cs x y:=
 ⟨(Below.heap_setCell _ _ _ _ hne).trans ((Below.heap_setCell _ _ _ _ hna).trans h1),(Below.heap_setCell _ _ _ _ hae).trans (dQ h2 0 x),dQ ((Below.heap_setCell _ _ _ _ (Ne.symm hae)).trans h3) 0 y,by simp [World.setCell],⟨rfl,rfl,rfl⟩,fun k k1 k2 k3=>(Below.heap_setCell _ _ _ _ k3).trans (Below.heap_setCell _ _ _ _ k2)⟩
theorem tG {a:World} {nb ab eb:Nat} {z0 z1 z2 z3 z4 z5 z6 y0 y1:Value} (h1:dP nb 26 #[z0,z1,z2,z3,z4,z5,z6] a) (h2:dP ab 3 #[y0] a) (h3:dP eb 27 #[y1] a) (hna:nb≠ab) (hne:nb≠eb) (hae:ab≠eb) (x0 x1 x2 x3 x4 x5 x6 x y:Value) :
  Three a (((put7w a nb x0 x1 x2 x3 x4 x5 x6).setCell ⟨ab,0,none⟩ x).setCell ⟨eb,0,none⟩ y) nb ab eb #[x0,x1,x2,x3,x4,x5,x6] x y:=by
 have e1:=oL h1 x0 x1 x2 x3 x4 x5 x6;have e2:=iF h2 (Ne.symm hna) x0 x1 x2 x3 x4 x5 x6;have e3:=iF h3 (Ne.symm hne) x0 x1 x2 x3 x4 x5 x6;have e4:(put7w a nb x0 x1 x2 x3 x4 x5 x6).heap.size=a.heap.size:=by simp [put7w,World.setCell]
 have e5:(put7w a nb x0 x1 x2 x3 x4 x5 x6).os=a.os∧(put7w a nb x0 x1 x2 x3 x4 x5 x6).tape=a.tape∧(put7w a nb x0 x1 x2 x3 x4 x5 x6).output=a.output:=by simp [put7w,World.setCell]
 have e6:∀ k,k≠nb→(put7w a nb x0 x1 x2 x3 x4 x5 x6).heap[k]? = a.heap[k]?:=fun k hk=>by
  unfold put7w;rw [Below.heap_setCell _ _ _ _ hk,Below.heap_setCell _ _ _ _ hk,Below.heap_setCell _ _ _ _ hk,Below.heap_setCell _ _ _ _ hk,Below.heap_setCell _ _ _ _ hk,Below.heap_setCell _ _ _ _ hk,Below.heap_setCell _ _ _ _ hk]
 generalize put7w a nb x0 x1 x2 x3 x4 x5 x6=u at *
 have Z:=yN e1 e2 e3 hna hne hae x y;exact⟨Z.gn,Z.ga,Z.ge,Z.size.trans e4,⟨Z.os.1.trans e5.1,Z.os.2.1.trans e5.2.1,Z.os.2.2.trans e5.2.2⟩,fun k k1 k2 k3=>(Z.rest k k1 k2 k3).trans (e6 k k1)⟩
theorem Three.below {a c:World} {nb ab eb B:Nat} {cs:Array Value} {x y:Value} (h:Three a c nb ab eb cs x y) (h1:B≤nb) (h2:B≤ab) (h3:B≤eb):Below B a c:=
 ⟨h.os.1,h.os.2.1,h.os.2.2,by rw [h.size];exact Nat.le_refl _,fun k hk=>h.rest k (by omega) (by omega) (by omega)⟩
theorem pX {fn:Func} {t1 t2 t3:Tmp} (h:fn.results=#[.cell t1 26,.cell t2 3,.cell t3 27]) {tmps:Array Value} {nb ab eb:Nat} {w:World} {a b c d e f p x y:Value} (e1:tmps.getD t1 undef=.pointer (some ⟨nb,0,none⟩)) (e2:tmps.getD t2 undef=.pointer (some ⟨ab,0,none⟩)) (e3:tmps.getD t3 undef=.pointer (some ⟨eb,0,none⟩))
  (h1:dP nb 26 #[a,b,c,d,e,f,p] w) (h2:dP ab 3 #[x] w) (h3:dP eb 27 #[y] w):(results fn tmps).run Tryz.prog w=.ok (.tuple #[.agg #[a,b,c,d,e,f,p],x,y]) w:=by
 rw [Array.getD_eq_getD_getElem?] at e1 e2 e3;have c0:=aB h1 0;have c1:=aB h1 1;have c2:=aB h1 2;have c3:=aB h1 3;have c4:=aB h1 4;have c5:=aB h1 5;have c6:=aB h1 6;have d0:=aB h2 0;have f0:=aB h3 0;simp at c0 c1 c2 c3 c4 c5 c6 d0 f0;simp [results,h,e1,e2,e3,go_sem,asAddr,c0,c1,c2,c3,c4,c5,c6,d0,f0]
structure Qc (P pp nb ab eb:Nat) (w:World):Prop where
 gp:dP pp 43 #[.pointer (some ⟨P,0,none⟩)] w
 gn:∃ a b c d e f p,dP nb 26 #[a,b,c,d,e,f,p] w
 ga:∃ x,dP ab 3 #[x] w
 ge:∃ x,dP eb 27 #[x] w
theorem Aq (a b c d:Value) (w:World) :
  CallsD Tryz.prog 36 #[a,b,c,d] .returning w fun e u' w'=>e=.returned (.tuple #[])∧u'=.returning∧w'=w:=by
 refine callsD_of_wpS Tryz.func36 rfl fun c₀ cs hu=>?_
 apply wpS_seq;apply wpS_region;simp [wpOpsS,go_sem,recoverD,hu,Tryz.ntmps36,Exit.thenS];refine wpS_cond (t:=false) (by simp [Act.eval,Array.replicate]) ?_;simp only [Bool.false_eq_true,if_false];refine wpS_of_wp (wp_skip ?_);cases c₀;simp_all [bodyPostS,results,Tryz.results36]
theorem rF (P pp nb ab eb:Nat) (L l:List Tok) (w:World) (hna:nb≠ab) (hne:nb≠eb) (hae:ab≠eb) (H:Hid (PSt P L w l)) (C:Hid (Qc P pp nb ab eb w)) :
  CallsD Tryz.prog 36 #[.pointer (some ⟨pp,0,none⟩),.pointer (some ⟨nb,0,none⟩),.pointer (some ⟨ab,0,none⟩),.pointer (some ⟨eb,0,none⟩)] (.panicking [{ v:=.iface 27 (.int .i64 12),recovered:=false }]) w fun e u' w'=>
   e=.returned (.tuple #[])∧u'=.panicking [{ v:=.iface 27 (.int .i64 12),recovered:=true }]∧dP nb 26 #[.int .i64 0,.int .i64 0,.int .i64 0,.string ⟨#[]⟩,.slice none 0 0,.slice none 0 0,.int .i64 0] w'∧dP ab 3 #[.int .i64 (cur l).pl] w'∧dP eb 27 #[.int .i64 12] w'∧w.heap.size≤w'.heap.size∧(w'.os=w.os∧w'.tape=w.tape∧w'.output=w.output)∧∀ k,k<w.heap.size→k≠nb→k≠ab→k≠eb→w'.heap[k]? = w.heap[k]?:=by
 refine callsD_of_wpS Tryz.func36 rfl fun c₀ cs hu=>?_
 apply wpS_seq;apply wpS_region;simp [wpOpsS,go_sem,recoverD,hu,Tryz.ntmps36,Exit.thenS];refine wpS_cond (t:=true) (by simp [Act.eval,Array.replicate]) ?_;simp only [if_true];refine wpS_of_wp ?_;obtain⟨k0,⟨z0,z1,z2,z3,z4,z5,z6,k1⟩,⟨y0,k2⟩,⟨y1,k3⟩⟩:=C.out;have K0:=aA k0;have K1:=aA k1;have K2:=aA k2;have K3:=aA k3;have p0:=aB k0 0;simp at p0;have hfd:=fun (w:World)=>rR (cur l) w
 have HC:=aA (cU P L l w H);clear C H k0 k1 k2 k3;generalize cur l=t at *
 unfold Tok.val at HC;have et:(#[Value.pointer (some ⟨pp,0,none⟩),Value.pointer (some ⟨nb,0,none⟩),Value.pointer (some ⟨ab,0,none⟩),Value.pointer (some ⟨eb,0,none⟩)]++((Array.replicate 6 undef).setIfInBounds 0 (Value.iface 27 (Value.int IntKind.i64 12))).setIfInBounds 1 (Value.bool true))=#[Value.pointer (some ⟨pp,0,none⟩),Value.pointer (some ⟨nb,0,none⟩),Value.pointer (some ⟨ab,0,none⟩),Value.pointer (some ⟨eb,0,none⟩),Value.iface 27 (Value.int IntKind.i64 12),Value.bool true,undef,undef,undef,undef]:=rfl;rw [et];clear et;go_wp2_with fail;refine HC.out.mono ?_;rintro e w1 ⟨rfl,b1⟩;have B1:=aA b1;have L1:=aA (aC K1.out b1);have L2:=aA (aC K2.out b1);have L3:=aA (aC K3.out b1);clear b1 HC K0 K1 K2 K3;obtain⟨r0,r1,r2,r3,r4,r5,r6⟩:=aN L1.out;obtain⟨u0,u1,u2,u3,u4,u5,u6⟩:=bP L1.out;have v0:=aB L2.out 0;have v1:=bG L2.out 0;have x0:=aB L3.out 0;have x1:=bG L3.out 0;simp at v0 x0;go_wp2_with fail;have Z:=tG L1.out L2.out L3.out hna hne hae (.int .i64 0) (.int .i64 0) (.int .i64 0) (.string ⟨#[]⟩) (.slice none 0 0) (.slice none 0 0) (.int .i64 0) (.int .i64 t.pl) (.int .i64 12);unfold put7w at Z;refine⟨rfl,_,rfl,.tuple #[],by simp [results,Tryz.results36],rfl,rfl,Z.gn,Z.ga,Z.ge,?_,?_,fun k h1 h2 h3 h4=>(Z.rest k h2 h3 h4).trans (B1.out.block k h1)⟩
 ·rw [Z.size];exact B1.out.size
 ·exact⟨Z.os.1.trans B1.out.os,Z.os.2.1.trans B1.out.tape,Z.os.2.2.trans B1.out.output⟩
end Go.Proofs.YtdnnmjhfidimcaaGreatDoor
