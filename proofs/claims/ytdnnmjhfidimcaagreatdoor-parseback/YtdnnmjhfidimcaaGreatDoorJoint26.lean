/- What is asked of a node of each kind. A node held against its bare copy; whether a node is right as a block. Whether a node is right as an expression. -/
import Derived.Test.YtdnnmjhfidimcaaGreatDoorJoint8
import Derived.Test.YtdnnmjhfidimcaaGreatDoorTreeAre
import Derived.Deep.RegionHeld3
import Derived.Deep.RegionWith
namespace Go.Proofs.YtdnnmjhfidimcaaGreatDoor
set_option maxHeartbeats 6400000
set_option maxRecDepth 100000
open Go.RowKit
def gB (k o n:Int) (s:ByteArray) (ns:List ByteArray) (c:Nat):Bool:=
 iK k o n s ns c k (cond (dF k) o 0) (cond (cH k) n 0) (cond (cK k) s ⟨#[]⟩) (cond (cV k) ns []) (cond (eV k) 0 c)
theorem OW (s:ByteArray):(s.data.toList==(⟨#[]⟩:ByteArray).data.toList)=decide (s.size=0):=by
 have e:s.size=s.data.toList.length:=by simp
 rw [Bool.eq_iff_iff,beq_iff_eq,decide_eq_true_iff,e,List.length_eq_zero_iff]
theorem QI (ns:List ByteArray):namesB ns []=decide (ns.length=0):=by
 unfold namesB;cases ns<;>rfl
theorem QJ (ns:List ByteArray):namesB ns ns=true:=by simp [namesB]
theorem cZ (k o n:Int) (s:ByteArray) (ns:List ByteArray) (c:Nat):gB k o n s ns c =
  (cond (dF k) true (decide (o=0))&&(cond (cH k) true (decide (n=0))&&(cond (cK k) true (decide (s.size=0))&&(cond (cV k) true (decide (ns.length=0))&&cond (eV k) (decide (c=0)) true)))):=by
 unfold gB iK;rw [beq_self_eq_true,Bool.true_and];congr 1
 ·cases dF k
  ·rw [Bool.eq_iff_iff];simp
  ·simp
 congr 1
 ·cases cH k
  ·rw [Bool.eq_iff_iff];simp
  ·simp
 congr 1
 ·cases cK k
  ·exact OW s
  ·simp
 congr 1
 ·cases cV k
  ·exact QI ns
  ·exact QJ ns
 ·cases eV k
  ·simp
  ·rw [Bool.eq_iff_iff];simp
theorem ML (o:Int):(signT o != [])=decide (1≤o∧o≤11):=by
 by_cases h:0≤o∧o≤11
 ·obtain rfl | rfl | rfl | rfl | rfl | rfl | rfl | rfl | rfl | rfl | rfl | rfl:o=0∨o=1∨o=2∨o=3∨o=4∨o=5∨o=6∨o=7∨o=8∨o=9∨o=10∨o=11:=by omega
  all_goals rfl
 ·rw [decide_eq_false (by omega)];have:signT o=[]:=by
   unfold signT;by_cases h0:o<0
   ·rw [if_pos h0]
   ·rw [if_neg h0,List.getD_eq_getElem?_getD,List.getElem?_eq_none (by simp [tsgnL];omega)];rfl
  rw [this];rfl
theorem Cv (o:Int):decide (0<(builtT o).2)=decide (1≤o∧o≤7):=by
 by_cases h:0≤o∧o≤7
 ·obtain rfl | rfl | rfl | rfl | rfl | rfl | rfl | rfl:o=0∨o=1∨o=2∨o=3∨o=4∨o=5∨o=6∨o=7:=by omega
  all_goals rfl
 ·rw [show decide (1≤o∧o≤7)=false from decide_eq_false (by omega)];have:builtT o=([],0):=by
   unfold builtT;by_cases h0:o<0
   ·rw [if_pos h0]
   ·rw [if_neg h0,List.getD_eq_getElem?_getD,List.getElem?_eq_none (by simp [builtL];omega)];rfl
  rw [this];rfl
theorem RN (o n:Int) (s:ByteArray) (ns:List ByteArray) (ks:List Nd) (p:Int):rightN (.mk 1 o n s ns ks p) 1=(gB 1 o n s ns ks.length&&true):=by
 rw [aP,cZ];cases ks with
 | nil=>
  have e:cP [] 1 0=true:=by rw [cP]
  rw [e];simp [kG,kP,cW,bU,bR,cU,bS,dF,cH,cK,cV,eV];try (rw [Bool.eq_iff_iff];simp;grind)
 | cons x r=>
  simp [kG,kP,cW,bU,bR,cU,bS,dF,cH,cK,cV,eV]
theorem RO (o n:Int) (s:ByteArray) (ns:List ByteArray) (ks:List Nd) (p:Int):rightN (.mk 6 o n s ns ks p) 1=(gB 6 o n s ns ks.length&&true):=by
 rw [aP,cZ];cases ks with
 | nil=>
  have e:cP [] 6 0=true:=by rw [cP]
  rw [e];simp [kG,kP,cW,bU,bR,cU,bS,dF,cH,cK,cV,eV];try (rw [Bool.eq_iff_iff];simp;grind)
 | cons x r=>
  simp [kG,kP,cW,bU,bR,cU,bS,dF,cH,cK,cV,eV]
theorem OX (o n:Int) (s:ByteArray) (ns:List ByteArray) (ks:List Nd) (p:Int):rightN (.mk 2 o n s ns ks p) 1=(gB 2 o n s ns ks.length&&(decide (n=0)||decide (n=1))):=by
 rw [aP,cZ];cases ks with
 | nil=>
  have e:cP [] 2 0=true:=by rw [cP]
  rw [e];simp [kG,kP,cW,bU,bR,cU,bS,dF,cH,cK,cV,eV];try (rw [Bool.eq_iff_iff];simp;grind)
 | cons x r=>
  simp [kG,kP,cW,bU,bR,cU,bS,dF,cH,cK,cV,eV]
theorem OY (o n:Int) (s:ByteArray) (ns:List ByteArray) (ks:List Nd) (p:Int):rightN (.mk 3 o n s ns ks p) 1=(gB 3 o n s ns ks.length&&(decide (0≤n)&&decide (n≤4611686018427387903))):=by
 rw [aP,cZ];cases ks with
 | nil=>
  have e:cP [] 3 0=true:=by rw [cP]
  rw [e];simp [kG,kP,cW,bU,bR,cU,bS,dF,cH,cK,cV,eV];try (rw [Bool.eq_iff_iff];simp;grind)
 | cons x r=>
  simp [kG,kP,cW,bU,bR,cU,bS,dF,cH,cK,cV,eV]
theorem RP (o n:Int) (s:ByteArray) (ns:List ByteArray) (ks:List Nd) (p:Int):rightN (.mk 4 o n s ns ks p) 1=(gB 4 o n s ns ks.length&&decide (s.size≤256)):=by
 rw [aP,cZ];cases ks with
 | nil=>
  have e:cP [] 4 0=true:=by rw [cP]
  rw [e];simp [kG,kP,cW,bU,bR,cU,bS,dF,cH,cK,cV,eV];try (rw [Bool.eq_iff_iff];simp;grind)
 | cons x r=>
  simp [kG,kP,cW,bU,bR,cU,bS,dF,cH,cK,cV,eV]
theorem OZ (o n:Int) (s:ByteArray) (ns:List ByteArray) (ks:List Nd) (p:Int):rightN (.mk 5 o n s ns ks p) 1=(gB 5 o n s ns ks.length&&properB s):=by
 rw [aP,cZ];cases ks with
 | nil=>
  have e:cP [] 5 0=true:=by rw [cP]
  rw [e];simp [kG,kP,cW,bU,bR,cU,bS,dF,cH,cK,cV,eV];try (rw [Bool.eq_iff_iff];simp;grind)
 | cons x r=>
  simp [kG,kP,cW,bU,bR,cU,bS,dF,cH,cK,cV,eV]
theorem Pa (o n:Int) (s:ByteArray) (ns:List ByteArray) (ks:List Nd) (p:Int):rightN (.mk 7 o n s ns ks p) 1=(gB 7 o n s ns ks.length&&(decide (ns.length=ks.length)&&((decide (ns.length≤40)&&ns.all dM)&&(decide (ks.length≤40)&&(!ks.any fun x=>!rightN x 1))))):=by
 rw [aP,cZ];rw [dE (a:=1) (by intro i;simp [bP])];generalize (!ks.any fun x=>!rightN x 1)=b;simp [kG,kP,cW,bU,bR,cU,bS,dF,cH,cK,cV,eV];try (rw [Bool.eq_iff_iff];simp;grind)
theorem Pb (o n:Int) (s:ByteArray) (ns:List ByteArray) (ks:List Nd) (p:Int):rightN (.mk 8 o n s ns ks p) 1=(gB 8 o n s ns ks.length&&((decide (ns.length≤6)&&ns.all properB)&&(decide (ks.length≤40)&&(!ks.any fun x=>!rightN x 2)))):=by
 rw [aP,cZ];rw [dE (a:=2) (by intro i;simp [bP])];generalize (!ks.any fun x=>!rightN x 2)=b;simp [kG,kP,cW,bU,bR,cU,bS,dF,cH,cK,cV,eV];try (rw [Bool.eq_iff_iff];simp;grind)
theorem Pd (o n:Int) (s:ByteArray) (ns:List ByteArray) (ks:List Nd) (p:Int):rightN (.mk 9 o n s ns ks p) 1=(gB 9 o n s ns ks.length&&((decide (o=1)||decide (o=2))&&(decide (ks.length=1)&&(!ks.any fun x=>!rightN x 1)))):=by
 rw [aP,cZ];rw [dE (a:=1) (by intro i;simp [bP])];generalize (!ks.any fun x=>!rightN x 1)=b;simp [kG,kP,cW,bU,bR,cU,bS,dF,cH,cK,cV,eV];try (rw [Bool.eq_iff_iff];simp;grind)
theorem Kp (o n:Int) (s:ByteArray) (ns:List ByteArray) (ks:List Nd) (p:Int):rightN (.mk 10 o n s ns ks p) 1=(gB 10 o n s ns ks.length&&((signT o != [])&&(decide (ks.length=2)&&(!ks.any fun x=>!rightN x 1)))):=by
 rw [aP,cZ];rw [dE (a:=1) (by intro i;simp [bP])];rw [ML];generalize (!ks.any fun x=>!rightN x 1)=b;simp [kG,kP,cW,bU,bR,cU,bS,dF,cH,cK,cV,eV];try (rw [Bool.eq_iff_iff];simp;grind)
theorem Kq (o n:Int) (s:ByteArray) (ns:List ByteArray) (ks:List Nd) (p:Int):rightN (.mk 11 o n s ns ks p) 1=(gB 11 o n s ns ks.length&&(decide (ks.length=2)&&(!ks.any fun x=>!rightN x 1))):=by
 rw [aP,cZ];rw [dE (a:=1) (by intro i;simp [bP])];generalize (!ks.any fun x=>!rightN x 1)=b;simp [kG,kP,cW,bU,bR,cU,bS,dF,cH,cK,cV,eV];try (rw [Bool.eq_iff_iff];simp;grind)
theorem Kr (o n:Int) (s:ByteArray) (ns:List ByteArray) (ks:List Nd) (p:Int):rightN (.mk 12 o n s ns ks p) 1=(gB 12 o n s ns ks.length&&(decide (ks.length=2)&&(!ks.any fun x=>!rightN x 1))):=by
 rw [aP,cZ];rw [dE (a:=1) (by intro i;simp [bP])];generalize (!ks.any fun x=>!rightN x 1)=b;simp [kG,kP,cW,bU,bR,cU,bS,dF,cH,cK,cV,eV];try (rw [Bool.eq_iff_iff];simp;grind)
theorem Ks (o n:Int) (s:ByteArray) (ns:List ByteArray) (ks:List Nd) (p:Int):rightN (.mk 14 o n s ns ks p) 1=(gB 14 o n s ns ks.length&&(decide (ks.length=2)&&(!ks.any fun x=>!rightN x 1))):=by
 rw [aP,cZ];rw [dE (a:=1) (by intro i;simp [bP])];generalize (!ks.any fun x=>!rightN x 1)=b;simp [kG,kP,cW,bU,bR,cU,bS,dF,cH,cK,cV,eV];try (rw [Bool.eq_iff_iff];simp;grind)
theorem Kt (o n:Int) (s:ByteArray) (ns:List ByteArray) (ks:List Nd) (p:Int):rightN (.mk 13 o n s ns ks p) 1=(gB 13 o n s ns ks.length&&(dM s&&(decide (ks.length=1)&&(!ks.any fun x=>!rightN x 1)))):=by
 rw [aP,cZ];rw [dE (a:=1) (by intro i;simp [bP])];generalize (!ks.any fun x=>!rightN x 1)=b;simp [kG,kP,cW,bU,bR,cU,bS,dF,cH,cK,cV,eV];try (rw [Bool.eq_iff_iff];simp;grind)
theorem Ku (o n:Int) (s:ByteArray) (ns:List ByteArray) (ks:List Nd) (p:Int):rightN (.mk 15 o n s ns ks p) 1=(gB 15 o n s ns ks.length&&(decide (1≤ks.length∧ks.length≤7)&&(!ks.any fun x=>!rightN x 1))):=by
 rw [aP,cZ];rw [dE (a:=1) (by intro i;simp [bP])];generalize (!ks.any fun x=>!rightN x 1)=b;simp [kG,kP,cW,bU,bR,cU,bS,dF,cH,cK,cV,eV];try (rw [Bool.eq_iff_iff];simp;grind)
theorem Kv (o n:Int) (s:ByteArray) (ns:List ByteArray) (ks:List Nd) (p:Int):rightN (.mk 16 o n s ns ks p) 1=(gB 16 o n s ns ks.length&&(dM s&&(decide (1≤ks.length∧ks.length≤7)&&(!ks.any fun x=>!rightN x 1)))):=by
 rw [aP,cZ];rw [dE (a:=1) (by intro i;simp [bP])];generalize (!ks.any fun x=>!rightN x 1)=b;simp [kG,kP,cW,bU,bR,cU,bS,dF,cH,cK,cV,eV];try (rw [Bool.eq_iff_iff];simp;grind)
theorem Kw (o n:Int) (s:ByteArray) (ns:List ByteArray) (ks:List Nd) (p:Int):rightN (.mk 17 o n s ns ks p) 1=(gB 17 o n s ns ks.length&&(decide (0<(builtT o).2)&&(decide (ks.length=(builtT o).2)&&(!ks.any fun x=>!rightN x 1)))):=by
 rw [aP,cZ];rw [dE (a:=1) (by intro i;simp [bP])];rw [Cv];generalize (!ks.any fun x=>!rightN x 1)=b;simp [kG,kP,cW,bU,bR,cU,bS,dF,cH,cK,cV,eV];try (rw [Bool.eq_iff_iff];simp;grind)
theorem KA (o n:Int) (s:ByteArray) (ns:List ByteArray) (ks:List Nd) (p:Int):rightN (.mk 21 o n s ns ks p) 2=(gB 21 o n s ns ks.length&&(properB s&&(decide (ks.length=1)&&(!ks.any fun x=>!rightN x 1)))):=by
 rw [aP,cZ];rw [dE (a:=1) (by intro i;simp [bP])];generalize (!ks.any fun x=>!rightN x 1)=b;simp [kG,kP,cW,bU,bR,cU,bS,dF,cH,cK,cV,eV];try (rw [Bool.eq_iff_iff];simp;grind)
theorem KB (o n:Int) (s:ByteArray) (ns:List ByteArray) (ks:List Nd) (p:Int):rightN (.mk 22 o n s ns ks p) 2=(gB 22 o n s ns ks.length&&(properB s&&(decide (ks.length=1)&&(!ks.any fun x=>!rightN x 1)))):=by
 rw [aP,cZ];rw [dE (a:=1) (by intro i;simp [bP])];generalize (!ks.any fun x=>!rightN x 1)=b;simp [kG,kP,cW,bU,bR,cU,bS,dF,cH,cK,cV,eV];try (rw [Bool.eq_iff_iff];simp;grind)
theorem KC (o n:Int) (s:ByteArray) (ns:List ByteArray) (ks:List Nd) (p:Int):rightN (.mk 23 o n s ns ks p) 2=(gB 23 o n s ns ks.length&&(dM s&&(decide (ks.length=2)&&(!ks.any fun x=>!rightN x 1)))):=by
 rw [aP,cZ];rw [dE (a:=1) (by intro i;simp [bP])];generalize (!ks.any fun x=>!rightN x 1)=b;simp [kG,kP,cW,bU,bR,cU,bS,dF,cH,cK,cV,eV];try (rw [Bool.eq_iff_iff];simp;grind)
theorem KD (o n:Int) (s:ByteArray) (ns:List ByteArray) (ks:List Nd) (p:Int):rightN (.mk 24 o n s ns ks p) 2=(gB 24 o n s ns ks.length&&(decide (ks.length=3)&&(!ks.any fun x=>!rightN x 1))):=by
 rw [aP,cZ];rw [dE (a:=1) (by intro i;simp [bP])];generalize (!ks.any fun x=>!rightN x 1)=b;simp [kG,kP,cW,bU,bR,cU,bS,dF,cH,cK,cV,eV];try (rw [Bool.eq_iff_iff];simp;grind)
theorem KE (o n:Int) (s:ByteArray) (ns:List ByteArray) (ks:List Nd) (p:Int):rightN (.mk 25 o n s ns ks p) 2=(gB 25 o n s ns ks.length&&(dM s&&(decide (ks.length=1)&&(!ks.any fun x=>!rightN x 1)))):=by
 rw [aP,cZ];rw [dE (a:=1) (by intro i;simp [bP])];generalize (!ks.any fun x=>!rightN x 1)=b;simp [kG,kP,cW,bU,bR,cU,bS,dF,cH,cK,cV,eV];try (rw [Bool.eq_iff_iff];simp;grind)
theorem KF (o n:Int) (s:ByteArray) (ns:List ByteArray) (ks:List Nd) (p:Int):rightN (.mk 26 o n s ns ks p) 2=(gB 26 o n s ns ks.length&&(decide (ks.length=2)&&(!ks.any fun x=>!rightN x 1))):=by
 rw [aP,cZ];rw [dE (a:=1) (by intro i;simp [bP])];generalize (!ks.any fun x=>!rightN x 1)=b;simp [kG,kP,cW,bU,bR,cU,bS,dF,cH,cK,cV,eV];try (rw [Bool.eq_iff_iff];simp;grind)
theorem KG (o n:Int) (s:ByteArray) (ns:List ByteArray) (ks:List Nd) (p:Int):rightN (.mk 27 o n s ns ks p) 2=(gB 27 o n s ns ks.length&&(decide (ks.length=1)&&(!ks.any fun x=>!rightN x 1))):=by
 rw [aP,cZ];rw [dE (a:=1) (by intro i;simp [bP])];generalize (!ks.any fun x=>!rightN x 1)=b;simp [kG,kP,cW,bU,bR,cU,bS,dF,cH,cK,cV,eV];try (rw [Bool.eq_iff_iff];simp;grind)
theorem KH (o n:Int) (s:ByteArray) (ns:List ByteArray) (ks:List Nd) (p:Int):rightN (.mk 31 o n s ns ks p) 2=(gB 31 o n s ns ks.length&&(decide (ks.length=1)&&(!ks.any fun x=>!rightN x 1))):=by
 rw [aP,cZ];rw [dE (a:=1) (by intro i;simp [bP])];generalize (!ks.any fun x=>!rightN x 1)=b;simp [kG,kP,cW,bU,bR,cU,bS,dF,cH,cK,cV,eV];try (rw [Bool.eq_iff_iff];simp;grind)
theorem KJ (o n:Int) (s:ByteArray) (ns:List ByteArray) (ks:List Nd) (p:Int):rightN (.mk 32 o n s ns ks p) 2=(gB 32 o n s ns ks.length&&(decide (ks.length=1)&&(!ks.any fun x=>!rightN x 1))):=by
 rw [aP,cZ];rw [dE (a:=1) (by intro i;simp [bP])];generalize (!ks.any fun x=>!rightN x 1)=b;simp [kG,kP,cW,bU,bR,cU,bS,dF,cH,cK,cV,eV];try (rw [Bool.eq_iff_iff];simp;grind)
theorem KM (o n:Int) (s:ByteArray) (ns:List ByteArray) (ks:List Nd) (p:Int):rightN (.mk 29 o n s ns ks p) 3=(gB 29 o n s ns ks.length&&(decide (ks.length≤40)&&(!ks.any fun x=>!rightN x 2))):=by
 rw [aP,cZ];rw [dE (a:=2) (by intro i;simp [bP])];generalize (!ks.any fun x=>!rightN x 2)=b;simp [kG,kP,cW,bU,bR,cU,bS,dF,cH,cK,cV,eV];try (rw [Bool.eq_iff_iff];simp;grind)
theorem mK (B:Nat) (w:World) (k o n:Int) (s:ByteArray) (ns:List ByteArray) (a1:Option Addr) (q1:Nat) (a2:Option Addr) (c2 q2:Nat) (p:Int) (hB:B≤w.heap.size) (hS:Hid (cE B (.slice a1 ns.length q1) ns w)) :
  Calls Tryz.prog 60 #[.agg #[.int .i64 k,.int .i64 o,.int .i64 n,.string s,.slice a1 ns.length q1,.slice a2 c2 q2,.int .i64 p]] w fun e w'=>
   ∃ x1 y1 z1 x2 z2,e=.returned (.agg #[.int .i64 k,.int .i64 (cond (dF k) o 0),.int .i64 (cond (cH k) n 0),.string (cond (cK k) s ⟨#[]⟩),.slice x1 y1 z1,.slice x2 (cond (eV k) 0 c2) z2,.int .i64 0])∧
    Hid (cE B (.slice x1 y1 z1) (cond (cV k) ns []) w')∧Below w.heap.size w w':=by
 refine (Ji w k o n s a1 ns.length q1 a2 c2 q2 p).mono ?_;rintro e w1 ⟨rfl,b1⟩;have h1:∃ x1 y1 z1,cond (cV k) (.slice a1 ns.length q1) (.slice none 0 0)=Value.slice x1 y1 z1∧cE B (.slice x1 y1 z1) (cond (cV k) ns []) w1:=by
  cases cV k
  ·exact⟨none,0,0,rfl,.inl ⟨none,0,rfl,rfl⟩⟩
  ·exact⟨a1,ns.length,q1,rfl,fC hS.out (b1.mono hB)⟩
 have h2:∃ x2 z2,cond (eV k) (.slice none 0 0) (.slice a2 c2 q2)=Value.slice x2 (cond (eV k) 0 c2) z2:=by
  cases eV k
  ·exact⟨a2,q2,rfl⟩
  ·exact⟨none,0,rfl⟩
 obtain⟨x1,y1,z1,e1,h3⟩:=h1;obtain⟨x2,z2,e2⟩:=h2;exact⟨x1,y1,z1,x2,z2,by rw [e1,e2],h3,b1⟩
theorem nU (B:Nat) (w:World) (k o n:Int) (s:ByteArray) (ns:List ByteArray) (a1:Option Addr) (q1:Nat) (a2:Option Addr) (c2 q2:Nat) (p:Int) (x1:Option Addr) (y1 z1:Nat) (x2:Option Addr) (z2:Nat) (hB:B≤w.heap.size)
  (hS:cE B (.slice a1 ns.length q1) ns w) (hS':cE B (.slice x1 y1 z1) (cond (cV k) ns []) w) (hc:ns.length≤1000000) :
  Calls Tryz.prog 31 #[.agg #[.int .i64 k,.int .i64 o,.int .i64 n,.string s,.slice a1 ns.length q1,.slice a2 c2 q2,.int .i64 p],
    .agg #[.int .i64 k,.int .i64 (cond (dF k) o 0),.int .i64 (cond (cH k) n 0),.string (cond (cK k) s ⟨#[]⟩),.slice x1 y1 z1,.slice x2 (cond (eV k) 0 c2) z2,.int .i64 0]] w fun e w'=>
   e=.returned (.bool (gB k o n s ns c2))∧Below w.heap.size w w':=
 Gc B w k o n s ns _ _ _ _ p k _ _ _ _ _ _ _ _ 0 hB (aA hS) (aA hS') hc
theorem gZ {w a c:World} {B g:Nat} {k o n:Int} {s:ByteArray} {nv kv:Value} {p:Int} {ns:List ByteArray} {ks:List Nd}
  (h:(Below w.heap.size w a∧kZ g k o n s nv kv p a∧Ok B a∧cE B nv ns a∧dI B a kv ks)∧a.cell? ⟨g,0,none⟩=some (.int .i64 k)∧a.cell? ⟨g,1,none⟩=some (.int .i64 o)∧a.cell? ⟨g,2,none⟩=some (.int .i64 n)∧a.cell? ⟨g,3,none⟩=some (.string s)∧
   a.cell? ⟨g,4,none⟩=some nv∧a.cell? ⟨g,5,none⟩=some kv∧a.cell? ⟨g,6,none⟩=some (.int .i64 p)) (q:Below a.heap.size a c) :
  (Below w.heap.size w c∧kZ g k o n s nv kv p c∧Ok B c∧cE B nv ns c∧dI B c kv ks)∧c.cell? ⟨g,0,none⟩=some (.int .i64 k)∧c.cell? ⟨g,1,none⟩=some (.int .i64 o)∧c.cell? ⟨g,2,none⟩=some (.int .i64 n)∧c.cell? ⟨g,3,none⟩=some (.string s)∧
   c.cell? ⟨g,4,none⟩=some nv∧c.cell? ⟨g,5,none⟩=some kv∧c.cell? ⟨g,6,none⟩=some (.int .i64 p):=by
 obtain⟨⟨h1,h2,h3,h4,h5⟩,_⟩:=h;have q':=q.mono h3.1;have hx:=lX h2 q;exact⟨⟨aG h1 (Nat.le_refl _) q,hx,aR h3 q',fC h4 q',fQ q' h5⟩,aI hx⟩
theorem yZ {w:World} {B:Nat} {k o n:Int} {s:ByteArray} {nv kv:Value} {p:Int} {ns:List ByteArray} {ks:List Nd} (hO:Ok B w) (hS:cE B nv ns w) (hK:dI B w kv ks) :
  (fun a:World=>(Below w.heap.size w a∧kZ w.heap.size k o n s nv kv p a∧Ok B a∧cE B nv ns a∧dI B a kv ks)∧a.cell? ⟨w.heap.size,0,none⟩=some (.int .i64 k)∧a.cell? ⟨w.heap.size,1,none⟩=some (.int .i64 o)∧a.cell? ⟨w.heap.size,2,none⟩=some (.int .i64 n)∧a.cell? ⟨w.heap.size,3,none⟩=some (.string s)∧
   a.cell? ⟨w.heap.size,4,none⟩=some nv∧a.cell? ⟨w.heap.size,5,none⟩=some kv∧a.cell? ⟨w.heap.size,6,none⟩=some (.int .i64 p)) (w.alloc (.cells #[.int .i64 k,.int .i64 o,.int .i64 n,.string s,nv,kv,.int .i64 p] 26)):=by
 have hal:=(Below.refl w.heap.size w).alloc (Nat.le_refl _) (.cells #[.int .i64 k,.int .i64 o,.int .i64 n,.string s,nv,kv,.int .i64 p] 26);have q':=hal.mono hO.1;have hx:=cL w k o n s nv kv p;exact⟨⟨hal,hx,aR hO q',fC hS q',fQ q' hK⟩,aI hx⟩
theorem nE {w a:World} {B g:Nat} {k o n:Int} {s:ByteArray} {nv kv:Value} {p:Int} {ns:List ByteArray} {ks:List Nd} {R:Prop} (h:(Below w.heap.size w a∧kZ g k o n s nv kv p a∧Ok B a∧cE B nv ns a∧dI B a kv ks)∧R):B≤a.heap.size:=h.1.2.2.1.1
theorem Sl {w a:World} {B g:Nat} {k o n:Int} {s:ByteArray} {nv kv:Value} {p:Int} {ns:List ByteArray} {ks:List Nd} {R:Prop} (h:(Below w.heap.size w a∧kZ g k o n s nv kv p a∧Ok B a∧cE B nv ns a∧dI B a kv ks)∧R):Hid (Ok B a):=h.1.2.2.1
theorem nF {w a:World} {B g:Nat} {k o n:Int} {s:ByteArray} {nv kv:Value} {p:Int} {ns:List ByteArray} {ks:List Nd} {R:Prop} (h:(Below w.heap.size w a∧kZ g k o n s nv kv p a∧Ok B a∧cE B nv ns a∧dI B a kv ks)∧R):cE B nv ns a:=h.1.2.2.2.1
theorem QK {w a:World} {B g:Nat} {k o n:Int} {s:ByteArray} {nv kv:Value} {p:Int} {ns:List ByteArray} {ks:List Nd} {R:Prop} (h:(Below w.heap.size w a∧kZ g k o n s nv kv p a∧Ok B a∧cE B nv ns a∧dI B a kv ks)∧R):Hid (dI B a kv ks):=h.1.2.2.2.2
theorem Jm (k o n:Int) (s:ByteArray) (ns:List ByteArray) (ks:List Nd) (p:Int) (ih:∀ x∈ks,uC x):Aw (.mk k o n s ns ks p):=by
 intro B w nv kv hO hN hsm hc;obtain⟨_,hns,_,hsk⟩:=lO hsm;simp only [bM] at hc;obtain⟨hs1,hk1⟩:=ndIn_mk.1 hN.out;obtain⟨a1,q1,a2,q2,rfl,rfl⟩:=cC hN.out;simp only [Nd.kind,Nd.op,Nd.num,Nd.str,Nd.pl,Nd.names,Nd.kids] at *
 have NEW:=aA (yZ (k:=k) (o:=o) (n:=n) (s:=s) (p:=p) hO.out hs1 hk1);have IH:=aA ih;clear hO hN hs1 hk1 hsm ih;by_cases hk:k=29
 ·subst hk;have HR:=aA (KM o n s ns ks p);have SK:=aA hsk;clear hsk;cases hbb:gB 29 o n s ns ks.length with
  | false=>
   have HB:=aA hbb;have H:=aA (show rightN (.mk 29 o n s ns ks p) 3=false by rw [HR.out,hbb];rfl);have NEW2:=aA (gZ NEW.out (Below.refl _ _).drew);clear hbb HR NEW;go_enter Tryz.func34,Tryz.ntmps34;go_wp2_with fail
   first | go_region_with (first
     | (go_at_call 60;refine (mK B _ 29 o n s ns a1 q1 a2 ks.length q2 p (nE NEW2.out) (aA (nF NEW2.out))).mono ?_;rintro e wx ⟨x1,y1,z1,x2,z2,rfl,hst,bb⟩;obtain⟨⟨zb,zx,zo,zs,zk⟩,f0,f1,f2,f3,f4,f5,f6⟩:=gZ NEW2.out bb)
     | (go_at_call 31;refine (nU B _ 29 o n s ns a1 q1 a2 ks.length q2 p _ _ _ _ _ zo.1 zs hst.out (by omega)).mono ?_;rintro e wy ⟨he,bc⟩;rw [HB.out] at he;subst he)) | fail
   all_goals
    have Z:=aA (aG zb (Nat.le_refl _) bc);clear zb zx zo zs zk;go_wp2_with fail;go_ret;exact⟨by rw [H.out];rfl,Z.out⟩
  | true=>
   have HB:=aA hbb;have H:=aA (show rightN (.mk 29 o n s ns ks p) 3=(decide (ks.length≤40)&&!ks.any fun x=>!rightN x 2) by rw [HR.out,hbb];rfl);clear hbb HR;go_enter Tryz.func34,Tryz.ntmps34;go_wp2_with fail;go_region_held3 (fun a=>(Below w.heap.size w a∧kZ w.heap.size 29 o n s (.slice a1 ns.length q1) (.slice a2 ks.length q2) p a∧Ok B a∧cE B (.slice a1 ns.length q1) ns a∧dI B a (.slice a2 ks.length q2) ks)∧a.cell? ⟨w.heap.size,0,none⟩=some (.int .i64 29)∧a.cell? ⟨w.heap.size,1,none⟩=some (.int .i64 o)∧a.cell? ⟨w.heap.size,2,none⟩=some (.int .i64 n)∧a.cell? ⟨w.heap.size,3,none⟩=some (.string s)∧
     a.cell? ⟨w.heap.size,4,none⟩=some (.slice a1 ns.length q1)∧a.cell? ⟨w.heap.size,5,none⟩=some (.slice a2 ks.length q2)∧a.cell? ⟨w.heap.size,6,none⟩=some (.int .i64 p))
    (first | exact gZ (by assumption) bb | exact gZ NEW.out (Below.refl _ _).drew | exact gZ (by assumption) (Below.refl _ _).drew)
    (first
     | (go_at_call 60;refine (mK B _ 29 o n s ns a1 q1 a2 ks.length q2 p (nE (by assumption)) (aA (nF (by assumption)))).mono ?_;rintro e wx ⟨x1,y1,z1,x2,z2,rfl,hst,bb⟩)
     | (go_at_call 31;refine (nU B _ 29 o n s ns a1 q1 a2 ks.length q2 p _ _ _ _ _ (nE (by assumption)) (nF (by assumption)) hst.out (by omega)).mono ?_;rintro e wx ⟨he,bb⟩;rw [HB.out] at he;subst he)
     | (go_at_call 61;refine (uD B _ _ ks (Sl (by assumption)) (QK (by assumption)) SK.out (by omega) IH.out).mono ?_;rintro e wx ⟨he,bb⟩;rw [← H.out] at he;subst he))
   rename_i hz;have Z:=aA hz.1.1;clear hz;go_wp2_with fail;go_ret;exact⟨rfl,Z.out⟩
 ·have ek:(k==29)=false:=beq_eq_false_iff_ne.2 hk;have H:=aA (show rightN (.mk k o n s ns ks p) 3=false by
   rw [aP];have:(kG k==3)=false:=EF hk;rw [this];rfl)
  have c0:(w.alloc (.cells #[.int .i64 k,.int .i64 o,.int .i64 n,.string s,.slice a1 ns.length q1,.slice a2 ks.length q2,.int .i64 p] 26)).drew.cell? ⟨w.heap.size,0,none⟩=some (.int .i64 k):=by simp
  clear hk;go_enter Tryz.func34,Tryz.ntmps34;go_wp2_with fail;go_region;all_goals
   go_wp2_with fail;go_ret;exact⟨by rw [H.out];rfl,NEW.out.1.1.drew⟩
theorem wC {k o n:Int} {s:ByteArray} {ns:List ByteArray} {ks:List Nd} {p:Int} {a:Nat} (h:gB k o n s ns ks.length=false):rightN (.mk k o n s ns ks p) a=false:=by
 rw [aP];have:kP k o n s ns ks.length=false:=by
  cases hq:kP k o n s ns ks.length with
  | false=>rfl
  | true=>
   exfalso;rw [cZ] at h;unfold kP at hq;simp only [Bool.and_eq_true] at hq;obtain⟨h1,h2,h3,h4,h5⟩:=hq;have g1:cond (dF k) true (decide (o=0))=true:=by unfold cW at h1;unfold dF;grind
   have g2:cond (cH k) true (decide (n=0))=true:=by unfold bU at h2;unfold cH;grind
   have g3:cond (cK k) true (decide (s.size=0))=true:=by unfold bR at h3;unfold cK;grind
   have g4:cond (cV k) true (decide (ns.length=0))=true:=by unfold cU at h4;unfold cV;grind
   have g5:cond (eV k) (decide (ks.length=0)) true=true:=by unfold bS at h5;unfold eV;grind
   rw [g1,g2,g3,g4,g5] at h;cases h
 rw [this];simp
theorem MO (k o n:Int) (s:ByteArray) (ns:List ByteArray) (ks:List Nd) (p:Int) (ihe:∀ x∈ks,sC x) (ihs:∀ x∈ks,uC x):sC (.mk k o n s ns ks p):=by
 intro B w nv kv hO hN hsm hc;obtain⟨hs6,hns,_,hsk⟩:=lO hsm;simp only [bM] at hc;obtain⟨hs1,hk1⟩:=ndIn_mk.1 hN.out;obtain⟨a1,q1,a2,q2,rfl,rfl⟩:=cC hN.out;simp only [Nd.kind,Nd.op,Nd.num,Nd.str,Nd.pl,Nd.names,Nd.kids] at *
 have NEW:=aA (yZ (k:=k) (o:=o) (n:=n) (s:=s) (p:=p) hO.out hs1 hk1);have IE:=aA ihe;have IS:=aA ihs;have SK:=aA hsk;have hlen:=dZ ks;clear hO hN hs1 hk1 hsm ihe ihs hsk;cases hbb:gB k o n s ns ks.length with
 | false=>
  have HB:=aA hbb;have H:=aA (wC (a:=1) (p:=p) hbb);clear hbb;go_enter Tryz.func123,Tryz.ntmps123;go_wp2_with fail;go_region_held3 (fun a=>(Below w.heap.size w a∧kZ w.heap.size k o n s (.slice a1 ns.length q1) (.slice a2 ks.length q2) p a∧Ok B a∧cE B (.slice a1 ns.length q1) ns a∧dI B a (.slice a2 ks.length q2) ks)∧a.cell? ⟨w.heap.size,0,none⟩=some (.int .i64 k)∧a.cell? ⟨w.heap.size,1,none⟩=some (.int .i64 o)∧a.cell? ⟨w.heap.size,2,none⟩=some (.int .i64 n)∧a.cell? ⟨w.heap.size,3,none⟩=some (.string s)∧
     a.cell? ⟨w.heap.size,4,none⟩=some (.slice a1 ns.length q1)∧a.cell? ⟨w.heap.size,5,none⟩=some (.slice a2 ks.length q2)∧a.cell? ⟨w.heap.size,6,none⟩=some (.int .i64 p))
   (first | exact gZ (by assumption) bb | exact gZ NEW.out (Below.refl _ _).drew | exact gZ (by assumption) (Below.refl _ _).drew)
   (first
    | (go_at_call 60;refine (mK B _ k o n s ns a1 q1 a2 ks.length q2 p (nE (by assumption)) (aA (nF (by assumption)))).mono ?_;rintro e wx ⟨x1,y1,z1,x2,z2,rfl,hst,bb⟩)
    | (go_at_call 31;refine (nU B _ k o n s ns a1 q1 a2 ks.length q2 p _ _ _ _ _ (nE (by assumption)) (nF (by assumption)) hst.out (by omega)).mono ?_;rintro e wx ⟨he,bb⟩;rw [HB.out] at he;subst he))
  rename_i hz;have Z:=aA hz.1.1;clear hz;go_wp2_with fail;go_ret;exact⟨by rw [H.out];rfl,Z.out⟩
 | true=>
  have HB:=aA hbb;clear hbb;go_enter Tryz.func123,Tryz.ntmps123;go_wp2_with fail;go_region_held3 (fun a=>(Below w.heap.size w a∧kZ w.heap.size k o n s (.slice a1 ns.length q1) (.slice a2 ks.length q2) p a∧Ok B a∧cE B (.slice a1 ns.length q1) ns a∧dI B a (.slice a2 ks.length q2) ks)∧a.cell? ⟨w.heap.size,0,none⟩=some (.int .i64 k)∧a.cell? ⟨w.heap.size,1,none⟩=some (.int .i64 o)∧a.cell? ⟨w.heap.size,2,none⟩=some (.int .i64 n)∧a.cell? ⟨w.heap.size,3,none⟩=some (.string s)∧
     a.cell? ⟨w.heap.size,4,none⟩=some (.slice a1 ns.length q1)∧a.cell? ⟨w.heap.size,5,none⟩=some (.slice a2 ks.length q2)∧a.cell? ⟨w.heap.size,6,none⟩=some (.int .i64 p))
   (first | exact gZ (by assumption) bb | exact gZ NEW.out (Below.refl _ _).drew | exact gZ (by assumption) (Below.refl _ _).drew)
   (first
    | (go_at_call 60;refine (mK B _ k o n s ns a1 q1 a2 ks.length q2 p (nE (by assumption)) (aA (nF (by assumption)))).mono ?_;rintro e wx ⟨x1,y1,z1,x2,z2,rfl,hst,bb⟩)
    | (go_at_call 31;refine (nU B _ k o n s ns a1 q1 a2 ks.length q2 p _ _ _ _ _ (nE (by assumption)) (nF (by assumption)) hst.out (by omega)).mono ?_;rintro e wx ⟨he,bb⟩;rw [HB.out] at he;subst he))
  rename_i hz;obtain⟨⟨zb,zx,zo,zs,zk⟩,c0,c1,c2,c3,c4,c5,c6⟩:=hz;have Z:=aA zb;have ZX:=aA zx;have ZO:=aA zo;have ZS:=aA zs;have ZK:=aA zk;clear zb zx zo zs zk NEW;by_cases hk1:k=1
  ·subst hk1;have H:=aA (show rightN (.mk 1 o n s ns ks p) 1=true by rw [RN o n s ns ks p,HB.out,Bool.true_and]);go_wp2_with fail;go_ret;exact⟨by rw [H.out];rfl,Z.out⟩
  by_cases hk2:k=2
  ·subst hk2;have H:=aA (show rightN (.mk 2 o n s ns ks p) 1=(decide (n=0)||decide (n=1)) by rw [OX o n s ns ks p,HB.out,Bool.true_and]);rcases (show n=0∨n=1∨(n≠0∧n≠1) from by omega) with rfl | rfl | ⟨h0,h1⟩
   ·go_wp2_with fail;go_ret;exact⟨by rw [H.out];rfl,Z.out⟩
   ·go_wp2_with fail;go_ret;exact⟨by rw [H.out];rfl,Z.out⟩
   ·have e0:(n==0)=false:=beq_eq_false_iff_ne.2 h0;have e1:(n==1)=false:=beq_eq_false_iff_ne.2 h1;rw [decide_eq_false h0,decide_eq_false h1] at H;clear h0 h1;go_wp2_with fail;go_ret;exact⟨by rw [H.out];rfl,Z.out⟩
  by_cases hk3:k=3
  ·subst hk3;have H:=aA (show rightN (.mk 3 o n s ns ks p) 1=(decide (0≤n)&&decide (n≤4611686018427387903)) by rw [OY o n s ns ks p,HB.out,Bool.true_and]);by_cases h0:0≤n
   ·have d0:decide (0≤n)=true:=decide_eq_true h0;rw [d0] at H;go_wp2_with fail;go_ret;exact⟨by rw [H.out];rfl,Z.out⟩
   ·have d0:decide (0≤n)=false:=decide_eq_false h0;rw [d0] at H;go_wp2_with fail;go_ret;exact⟨by rw [H.out];rfl,Z.out⟩
  by_cases hk4:k=4
  ·subst hk4;have H:=aA (show rightN (.mk 4 o n s ns ks p) 1=decide (s.size≤256) by rw [RP o n s ns ks p,HB.out,Bool.true_and]);by_cases h0:s.size≤256
   ·rw [decide_eq_true h0] at H;have d4:decide ((s.size:Int)≤256)=true:=decide_eq_true (by omega);go_wp2_with fail;go_ret;exact⟨by rw [H.out];rfl,Z.out⟩
   ·rw [decide_eq_false h0] at H;have d4:decide ((s.size:Int)≤256)=false:=decide_eq_false (by omega);go_wp2_with fail;go_ret;exact⟨by rw [H.out];rfl,Z.out⟩
  by_cases hk5:k=5
  ·subst hk5;have H:=aA (show rightN (.mk 5 o n s ns ks p) 1=properB s by rw [OZ o n s ns ks p,HB.out,Bool.true_and]);go_wp2_with fail;refine (oC s _).mono ?_;rintro e wz ⟨rfl,rfl⟩;go_wp2_with fail;go_ret;exact⟨by rw [H.out];rfl,Z.out⟩
  by_cases hk6:k=6
  ·subst hk6;have H:=aA (show rightN (.mk 6 o n s ns ks p) 1=true by rw [RO o n s ns ks p,HB.out,Bool.true_and]);go_wp2_with fail;go_ret;exact⟨by rw [H.out];rfl,Z.out⟩
  by_cases hk7:k=7
  ·subst hk7;have H:=aA (show rightN (.mk 7 o n s ns ks p) 1=(decide (ns.length=ks.length)&&((decide (ns.length≤40)&&ns.all dM)&&(decide (ks.length≤40)&&(!ks.any fun x=>!rightN x 1)))) by rw [Pa o n s ns ks p,HB.out,Bool.true_and]);by_cases hl:ns.length=ks.length
   ·have e0:((ns.length:Int)==(ks.length:Int))=true:=beq_iff_eq.2 (by omega);rw [decide_eq_true hl,Bool.true_and] at H;clear hl;go_wp2_with fail;refine (Gd B _ _ ns 40 ZO.out.1 ZS (by omega)).mono ?_;rintro e wy ⟨rfl,b1⟩;have Z1:=aA (aG Z.out (Nat.le_refl _) b1);have bq:=b1.mono ZO.out.1;have X1:=lX ZX.out b1;obtain⟨d0,d1,d2,d3,d4,d5,d6⟩:=aI X1;have O1:=aA (aR ZO.out bq);have K1:=aA (fQ bq ZK.out);clear b1 bq X1;generalize (decide (ns.length≤40)&&ns.all dM)=nb at *
    cases nb
    ·go_wp2_with fail;go_ret;exact⟨by rw [H.out];rfl,Z1.out⟩
    ·go_wp2_with fail;refine (BU B _ _ ks 40 O1 K1 SK.out (by omega) IE.out).mono ?_;rintro e wz ⟨rfl,bz⟩;have ZZ:=aA (aG Z1.out (Nat.le_refl _) bz);clear bz;go_wp2_with fail;go_ret;exact⟨by rw [H.out];rfl,ZZ.out⟩
   ·have e0:((ns.length:Int)==(ks.length:Int))=false:=beq_eq_false_iff_ne.2 (by omega);rw [decide_eq_false hl,Bool.false_and] at H;clear hl;go_wp2_with fail;go_ret;exact⟨by rw [H.out];rfl,Z.out⟩
  by_cases hk8:k=8
  ·subst hk8;have H:=aA (show rightN (.mk 8 o n s ns ks p) 1=((decide (ns.length≤6)&&ns.all properB)&&(decide (ks.length≤40)&&(!ks.any fun x=>!rightN x 2))) by rw [Pb o n s ns ks p,HB.out,Bool.true_and]);go_wp2_with fail;refine (Cw B _ _ ns 6 ZO.out.1 ZS (by omega)).mono ?_;rintro e wy ⟨rfl,b1⟩;have Z1:=aA (aG Z.out (Nat.le_refl _) b1);have bq:=b1.mono ZO.out.1;have X1:=lX ZX.out b1;obtain⟨d0,d1,d2,d3,d4,d5,d6⟩:=aI X1;have O1:=aA (aR ZO.out bq);have K1:=aA (fQ bq ZK.out);clear b1 bq X1;generalize (decide (ns.length≤6)&&ns.all properB)=nb at *
   cases nb
   ·go_wp2_with fail;go_ret;exact⟨by rw [H.out];rfl,Z1.out⟩
   ·go_wp2_with fail;refine (uD B _ _ ks O1 K1 SK.out (by omega) IS.out).mono ?_;rintro e wz ⟨rfl,bz⟩;have ZZ:=aA (aG Z1.out (Nat.le_refl _) bz);clear bz;go_wp2_with fail;go_ret;exact⟨by rw [H.out];rfl,ZZ.out⟩
  by_cases hk9:k=9
  ·subst hk9;have H:=aA (show rightN (.mk 9 o n s ns ks p) 1=((decide (o=1)||decide (o=2))&&(decide (ks.length=1)&&(!ks.any fun x=>!rightN x 1))) by rw [Pd o n s ns ks p,HB.out,Bool.true_and]);rcases (show o=1∨o=2∨(o≠1∧o≠2) from by omega) with rfl | rfl | ⟨h0,h1⟩
   ·go_wp2_with fail;refine (cO B _ _ ks 1 ZO ZK SK.out (by omega) IE.out).mono ?_;rintro e wz ⟨rfl,bz⟩;have ZZ:=aA (aG Z.out (Nat.le_refl _) bz);clear bz;go_wp2_with fail;go_ret;exact⟨by rw [H.out];rfl,ZZ.out⟩
   ·go_wp2_with fail;refine (cO B _ _ ks 1 ZO ZK SK.out (by omega) IE.out).mono ?_;rintro e wz ⟨rfl,bz⟩;have ZZ:=aA (aG Z.out (Nat.le_refl _) bz);clear bz;go_wp2_with fail;go_ret;exact⟨by rw [H.out];rfl,ZZ.out⟩
   ·have e0:(o==1)=false:=beq_eq_false_iff_ne.2 h0;have e1:(o==2)=false:=beq_eq_false_iff_ne.2 h1;rw [decide_eq_false h0,decide_eq_false h1] at H;clear h0 h1;go_wp2_with fail;go_ret;exact⟨by rw [H.out];rfl,Z.out⟩
  by_cases hk10:k=10
  ·subst hk10;have H:=aA (show rightN (.mk 10 o n s ns ks p) 1=((signT o != [])&&(decide (ks.length=2)&&(!ks.any fun x=>!rightN x 1))) by rw [Kp o n s ns ks p,HB.out,Bool.true_and]);go_wp2_with fail;refine (rI o B _ ZO).mono ?_;rintro e wz ⟨rfl,rfl⟩;generalize signT o=sg at *
   cases sg with
   | nil=>
    go_wp2_with fail;go_ret;exact⟨by rw [H.out];rfl,Z.out⟩
   | cons x r=>
    have hne:((x::r) != ([]:List UInt8))=true:=rfl;rw [hne,Bool.true_and] at H;go_wp2_with fail;refine (cO B _ _ ks 2 ZO ZK SK.out (by omega) IE.out).mono ?_;rintro e wz ⟨rfl,bz⟩;have ZZ:=aA (aG Z.out (Nat.le_refl _) bz);clear bz;go_wp2_with fail;go_ret;exact⟨by rw [H.out];rfl,ZZ.out⟩
  by_cases hk11:k=11
  ·subst hk11;have H:=aA (show rightN (.mk 11 o n s ns ks p) 1=(decide (ks.length=2)&&(!ks.any fun x=>!rightN x 1)) by rw [Kq o n s ns ks p,HB.out,Bool.true_and]);go_wp2_with fail;refine (cO B _ _ ks 2 ZO ZK SK.out (by omega) IE.out).mono ?_;rintro e wz ⟨rfl,bz⟩;have ZZ:=aA (aG Z.out (Nat.le_refl _) bz);clear bz;go_wp2_with fail;go_ret;exact⟨by rw [H.out];rfl,ZZ.out⟩
  by_cases hk12:k=12
  ·subst hk12;have H:=aA (show rightN (.mk 12 o n s ns ks p) 1=(decide (ks.length=2)&&(!ks.any fun x=>!rightN x 1)) by rw [Kr o n s ns ks p,HB.out,Bool.true_and]);go_wp2_with fail;refine (cO B _ _ ks 2 ZO ZK SK.out (by omega) IE.out).mono ?_;rintro e wz ⟨rfl,bz⟩;have ZZ:=aA (aG Z.out (Nat.le_refl _) bz);clear bz;go_wp2_with fail;go_ret;exact⟨by rw [H.out];rfl,ZZ.out⟩
  by_cases hk13:k=13
  ·subst hk13;have H:=aA (show rightN (.mk 13 o n s ns ks p) 1=(dM s&&(decide (ks.length=1)&&(!ks.any fun x=>!rightN x 1))) by rw [Kt o n s ns ks p,HB.out,Bool.true_and]);go_wp2_with fail;refine (iY s _).mono ?_;rintro e wz ⟨rfl,rfl⟩;have HP:=aA (show dM s=nameB s.data.toList from rfl);rw [HP.out] at H;clear HP;generalize nameB s.data.toList=nb at *
   cases nb
   ·go_wp2_with fail;go_ret;exact⟨by rw [H.out];rfl,Z.out⟩
   ·go_wp2_with fail;refine (cO B _ _ ks 1 ZO ZK SK.out (by omega) IE.out).mono ?_;rintro e wz ⟨rfl,bz⟩;have ZZ:=aA (aG Z.out (Nat.le_refl _) bz);clear bz;go_wp2_with fail;go_ret;exact⟨by rw [H.out];rfl,ZZ.out⟩
  by_cases hk14:k=14
  ·subst hk14;have H:=aA (show rightN (.mk 14 o n s ns ks p) 1=(decide (ks.length=2)&&(!ks.any fun x=>!rightN x 1)) by rw [Ks o n s ns ks p,HB.out,Bool.true_and]);go_wp2_with fail;refine (cO B _ _ ks 2 ZO ZK SK.out (by omega) IE.out).mono ?_;rintro e wz ⟨rfl,bz⟩;have ZZ:=aA (aG Z.out (Nat.le_refl _) bz);clear bz;go_wp2_with fail;go_ret;exact⟨by rw [H.out];rfl,ZZ.out⟩
  by_cases hk15:k=15
  ·subst hk15;have H:=aA (show rightN (.mk 15 o n s ns ks p) 1=(decide (1≤ks.length∧ks.length≤7)&&(!ks.any fun x=>!rightN x 1)) by rw [Ku o n s ns ks p,HB.out,Bool.true_and]);go_wp2_with fail;refine (xU B _ _ ks ZO ZK SK.out (by omega) IE.out).mono ?_;rintro e wz ⟨rfl,bz⟩;have ZZ:=aA (aG Z.out (Nat.le_refl _) bz);clear bz;generalize (decide (1≤ks.length∧ks.length≤7)&&!ks.any fun x=>!rightN x 1)=rb at *
   go_wp2_with fail;go_ret;exact⟨by rw [H.out];rfl,ZZ.out⟩
  by_cases hk16:k=16
  ·subst hk16;have H:=aA (show rightN (.mk 16 o n s ns ks p) 1=(dM s&&(decide (1≤ks.length∧ks.length≤7)&&(!ks.any fun x=>!rightN x 1))) by rw [Kv o n s ns ks p,HB.out,Bool.true_and]);go_wp2_with fail;refine (iY s _).mono ?_;rintro e wz ⟨rfl,rfl⟩;have HP:=aA (show dM s=nameB s.data.toList from rfl);rw [HP.out] at H;clear HP;generalize nameB s.data.toList=nb at *
   cases nb
   ·go_wp2_with fail;go_ret;exact⟨by rw [H.out];rfl,Z.out⟩
   ·go_wp2_with fail;refine (xU B _ _ ks ZO ZK SK.out (by omega) IE.out).mono ?_;rintro e wz ⟨rfl,bz⟩;have ZZ:=aA (aG Z.out (Nat.le_refl _) bz);clear bz;generalize (decide (1≤ks.length∧ks.length≤7)&&!ks.any fun x=>!rightN x 1)=rb at *
    go_wp2_with fail;go_ret;exact⟨by rw [H.out];rfl,ZZ.out⟩
  by_cases hk17:k=17
  ·subst hk17;have H:=aA (show rightN (.mk 17 o n s ns ks p) 1=(decide (0<(builtT o).2)&&(decide (ks.length=(builtT o).2)&&(!ks.any fun x=>!rightN x 1))) by rw [Kw o n s ns ks p,HB.out,Bool.true_and]);go_wp2_with fail;refine (oE o _).mono ?_;rintro e wz ⟨rfl,rfl⟩;generalize builtT o=bt at *
   obtain⟨bn,m⟩:=bt;simp only at H;by_cases hm:0<m
   ·rw [decide_eq_true hm,Bool.true_and] at H;go_wp2_with fail;refine (cO B _ _ ks m ZO ZK SK.out (by omega) IE.out).mono ?_;rintro e wz ⟨rfl,bz⟩;have ZZ:=aA (aG Z.out (Nat.le_refl _) bz);clear bz;go_wp2_with fail;go_ret;exact⟨by rw [H.out];rfl,ZZ.out⟩
   ·rw [decide_eq_false hm,Bool.false_and] at H;go_wp2_with fail;go_ret;exact⟨by rw [H.out];rfl,Z.out⟩
  have H:=aA (show rightN (.mk k o n s ns ks p) 1=false by rw [aP,EG (by omega)];rfl);have e1:(k==1)=false:=beq_eq_false_iff_ne.2 hk1;have e2:(k==2)=false:=beq_eq_false_iff_ne.2 hk2;have e3:(k==3)=false:=beq_eq_false_iff_ne.2 hk3;have e4:(k==4)=false:=beq_eq_false_iff_ne.2 hk4;have e5:(k==5)=false:=beq_eq_false_iff_ne.2 hk5;have e6:(k==6)=false:=beq_eq_false_iff_ne.2 hk6;have e7:(k==7)=false:=beq_eq_false_iff_ne.2 hk7;have e8:(k==8)=false:=beq_eq_false_iff_ne.2 hk8;have e9:(k==9)=false:=beq_eq_false_iff_ne.2 hk9;have e10:(k==10)=false:=beq_eq_false_iff_ne.2 hk10;have e11:(k==11)=false:=beq_eq_false_iff_ne.2 hk11;have e12:(k==12)=false:=beq_eq_false_iff_ne.2 hk12;have e13:(k==13)=false:=beq_eq_false_iff_ne.2 hk13;have e14:(k==14)=false:=beq_eq_false_iff_ne.2 hk14;have e15:(k==15)=false:=beq_eq_false_iff_ne.2 hk15;have e16:(k==16)=false:=beq_eq_false_iff_ne.2 hk16;have e17:(k==17)=false:=beq_eq_false_iff_ne.2 hk17;clear hk1 hk2 hk3 hk4 hk5 hk6 hk7 hk8 hk9 hk10 hk11 hk12 hk13 hk14 hk15 hk16 hk17;go_wp2_with fail;go_ret;exact⟨by rw [H.out];rfl,Z.out⟩
end Go.Proofs.YtdnnmjhfidimcaaGreatDoor
