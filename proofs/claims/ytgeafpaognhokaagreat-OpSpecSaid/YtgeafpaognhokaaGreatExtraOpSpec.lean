/- What this law needs besides. -/
import Derived.Test.YtgeafpaognhokaaGreatG1110
namespace Go.Proofs.YtgeafpaognhokaaGreat
set_option maxRecDepth 100000
set_option maxHeartbeats 4000000
section
namespace Cs
open Tr Cx Sp Rw Classical
theorem KT {t:T} : 0<t.es.length↔∃ q e,aU t [] q=some e:=by
 constructor
 ·intro h
  cases a:t.es with
  | nil=>rw[a]at h;simp at h
  | cons e l=>
   refine⟨aV e,e,?_⟩;show look aV t.es _=_;rw[a];exact dz rfl _
 ·rintro⟨q,e,h⟩
  exact List.length_pos_of_mem (nR h).1
theorem H7 {d:Nat} {t:T} (h:au (d+1) t) {k:ByteArray} : k∈jd t↔∃ q e,aU t [k] q=some e:=by
 unfold jd;simp only[nD];rw[← KT,dH];constructor
 ·rintro⟨x,j,rfl⟩
  obtain⟨f,a⟩:=qR.1 j;rw[sJ (mO h) f];exact jH a
 ·intro a
  rcases jQ (ks:=t.ks) (key:=k)with ⟨x,b,g,i⟩ | ⟨_,b⟩
  ·rw[i]at a
   exact⟨x,qR.2 ⟨b,aJ a⟩,g⟩
  ·rw[b]at a
   exact absurd a (by unfold none_;simp[T.es])
theorem Ez {d:Nat} {t:T} (h:au (d+1) t):(jd t).Pairwise cK:=by
 unfold jd;rw[List.pairwise_map];exact (mO h).filter _
end Cs
end
section
open ChangeShapes WideShapes ChangeAt RowKit
namespace Cs
open Tr Cx Sp Rw Classical
theorem qX (a b:List ByteArray) (n m:Nat) (A B:Option Addr) (c d:Nat) (w:World) (hn:m≤1000) (D:Rd w w.heap.size 1 A n c (strs a)) (F:Rd w w.heap.size 1 B m d (strs b)) (z:Bool) (Y:decide (b <+: a)=z) :
  Calls Tryz.prog 74 #[.slice A n c,.slice B m d] w fun e w'=>e = .returned (.bool z)∧av w w':=by
 have R:=ah Y;have Z:=ah D;have HB:=ah F;have G:=ah (bM D);have u:=ah (bM F);clear D F Y
 by_cases t:n<m
 ·have f0:decide ((n:Int)<(m:Int))=true:=aJ (by omega)
  have f1:decide (n<m)=true:=aJ t
  obtain rfl:z=false:=by
   rw[← R.o];refine aM fun e=>?_;have h:=e.length_le;have h1:=G.o;have h2:=u.o;omega
  clear t;go_enter Tryz.func74,Tryz.ntmps74;go_wp2_with fail;go_ret;exact⟨rfl,bN⟩
 ·have f0:decide ((n:Int)<(m:Int))=false:=aM (by omega)
  have f1:decide (n<m)=false:=aM t
  have O:ai (m≤n):=FL
  clear t;go_enter Tryz.func74,Tryz.ntmps74;go_wp2_with fail
  go_loopw [13] (fun i wr=>∃ (k:Nat),k≤m∧i = .int .i64 k∧ai (a.take k=b.take k)∧ai (av w wr)) (fun i _=>m-(intOf i).toNat)
  case atStart=>exact⟨0,by omega,rfl,ah (by rw[List.take_zero,List.take_zero]),bN⟩
  case round=>
   obtain⟨k,hk,rfl,X,f⟩:=hrel
   by_cases W:k<m
   ·have V:k<n:=by have:=O.o;omega
    have J:k<a.length:=by rw[G.o];exact V
    have C:k<b.length:=by rw[u.o];exact W
    obtain⟨g,o,rfl,U,S⟩:=gM Z (by omega);obtain⟨g2,o2,rfl,H,v⟩:=gM HB (by omega);have q0:=(f.cell (p:=⟨g,o+k,none⟩) U).trans (S k J);have r0:=(f.cell (p:=⟨g2,o2+k,none⟩) H).trans (v k C);have q:a.take (k+1)=a.take k++[a[k]]:=dZ J;have r:b.take (k+1)=b.take k++[b[k]]:=dZ C;have j:b <+: a→a[k]=b[k]:=fun e=>(List.IsPrefix.getElem e C).symm;obtain⟨x,M⟩:∃ x,x=a[k]:=⟨_,rfl⟩;obtain⟨y,N⟩:∃ y,y=b[k]:=⟨_,rfl⟩;rw[← M]at q0 q;rw[← N]at r0 r
    by_cases L:x=y
    ·subst L
     have Q:ai (a.take (k+1)=b.take (k+1)):=ah (by rw[q,r,X.o])
     clear S v q r M N j;go_wp2_with fail
     go_quiet (fail)
     go_wp2_with fail;go_roundw
     case rel=>exact⟨k+1,by omega,by go_num,Q,aK f _⟩
     case measure=>simp[intOf];omega
    ·have f2:(x.toList==y.toList)=false:=dJ L
     have f3:(x.toList != y.toList)=true:=by unfold bne;rw[f2];rfl
     obtain rfl:z=false:=by
      rw[← R.o];refine aM fun e=>L ?_;rw[M,N];exact j e
     clear S v q r M N L j;go_wp2_with fail
     go_quiet (fail)
     go_wp2_with fail;go_ret;exact⟨rfl,aK f _⟩
   ·obtain rfl:k=m:=by omega
    obtain rfl:z=true:=by
     rw[← R.o];have h:=X.o;rw[eO (l:=b) (by rw[u.o];omega)]at h;exact aJ (by rw[← h];exact List.take_prefix _ _)
    go_wp2_with fail;go_ret;exact⟨rfl,f⟩
theorem qY (M:List ByteArray) (f:Int) (xs:ByteArray) (R:Int) (J:Option Addr) (q L:Nat) (G:List ByteArray) (j:Int) (es:ByteArray) (ev:Int) (D:Option Addr) (m F:Nat) (w:World) (z:Bool) (hz:decide (oU ⟨M,f,xs,R⟩ ⟨G,j,es,ev⟩)=z) (hn:q≤1000) (v:Rd w w.heap.size 1 J q L (strs M)) (u:Rd w w.heap.size 1 D m F (strs G)) :
  Calls Tryz.prog 127 #[.agg #[.slice J q L,.int .i64 f,.string xs,.int .i64 R],.agg #[.slice D m F,.int .i64 j,.string es,.int .i64 ev]] w fun e w'=>e = .returned (.bool z)∧av w w':=by
 obtain⟨g,hg⟩:∃ g,g=w.heap.size:=⟨_,rfl⟩;obtain⟨h,hh⟩:∃ h,h=g+1:=⟨_,rfl⟩;obtain⟨W,Q⟩:∃ W,W=(w.alloc (.cells #[.slice J q L,.int .i64 f,.string xs,.int .i64 R] 27)).alloc (.cells #[.slice D m F,.int .i64 j,.string es,.int .i64 ev] 27):=⟨_,rfl⟩
 have n:av w W:=by rw[Q];exact ((bN).alloc (bG) _).alloc (by simp) _
 have d:ai (Kept [(⟨g,0,none⟩,.slice J q L),(⟨g,1,none⟩,.int .i64 f),(⟨g,2,none⟩,.string xs),(⟨g,3,none⟩,.int .i64 R),(⟨h,0,none⟩,.slice D m F),(⟨h,1,none⟩,.int .i64 j),(⟨h,2,none⟩,.string es),(⟨h,3,none⟩,.int .i64 ev)] w W):=by
  have h0:=Kept.a_ n
  refine (((((((h0.af ?_).af ?_).af ?_).af ?_).af ?_).af ?_).af ?_).af ?_ <;> (rw[Q];(try rw[hh]);rw[hg];go_simp)
 have U:=ah (v.later n);have S:=ah (u.later n);have C:=ah (bM v);have B:=ah (bM u);have i:=ah hz;have HG:=ah hg;have HH:=ah hh;have HW:=ah Q;clear v u hz hg hh Q n;obtain⟨y,hy⟩:∃ y,decide (M <+: G)=y:=⟨_,rfl⟩;have V:=ah hy;clear hy;obtain⟨c0,c1,c2,c3,c4,c5,c6,c7,-⟩:=d.cj;go_enter Tryz.func127,Tryz.ntmps127;go_wp2_with fail;rw[← HG.o,← HW.o]
 try rw[← HH.o]
 refine (qX G M m q D J F L W hn S U y V).mono ?_;rintro e v1 ⟨rfl,H⟩;have d:=ah (d.later H);clear H;clear c0 c1 c2 c3 c4 c5 c6 c7;obtain⟨c0,c1,c2,c3,c4,c5,c6,c7,-⟩:=d.cj
 cases y with
 | false=>
  obtain rfl:z=false:=by
   rw[← i.o];refine aM fun hu=>?_;exact absurd hu.1 (yF V)
  go_wp2_with fail;go_ret;exact⟨by first | rfl | simp,d.below⟩
 | true=>
  have x:=ah (jH V)
  by_cases O:f=7
  ·subst O
   obtain rfl:z=true:=by
    rw[← i.o];exact aJ ⟨x,.inl rfl⟩
   go_wp2_with fail;go_ret;exact⟨by first | rfl | simp,d.below⟩
  have f7:(f==7)=false:=by simpa using O
  by_cases t:m=q
  ·subst t
   have fn:((m:Int) != (m:Int))=false:=by simp
   have A:ai (G.length=M.length):=ah (by rw[C.o,B.o])
   by_cases X:f=1
   ·subst X
    have N:(j==1)=z:=by
     rw[← i.o,jI,beq_iff_eq,eG];constructor
     ·intro a
      exact⟨x,.inr ⟨A,.inl ⟨.inl rfl,a⟩⟩⟩
     ·rintro⟨_,a | ⟨_,a⟩⟩
      ·simp at a
      ·rcases a with ⟨b,a⟩ | ⟨b | b,_⟩ | ⟨b,a⟩
       ·exact a
       ·simp at b
       ·simp at b
       ·simp at b
    go_wp2_with fail;go_ret;exact⟨by first | rfl | simp,d.below⟩
   have f1:(f==1)=false:=by simpa using X
   by_cases Y:f=2
   ·subst Y
    have N:(j==1)=z:=by
     rw[← i.o,jI,beq_iff_eq,eG];constructor
     ·intro a
      exact⟨x,.inr ⟨A,.inl ⟨.inr rfl,a⟩⟩⟩
     ·rintro⟨_,a | ⟨_,a⟩⟩
      ·simp at a
      ·rcases a with ⟨b,a⟩ | ⟨b | b,_⟩ | ⟨b,a⟩
       ·exact a
       ·simp at b
       ·simp at b
       ·simp at b
    go_wp2_with fail;go_ret;exact⟨by first | rfl | simp,d.below⟩
   have f2:(f==2)=false:=by simpa using Y
   by_cases Z:f=3
   ·subst Z
    by_cases r:j=3
    ·subst r
     have N:(es.toList==xs.toList)=z:=by
      rw[← i.o,jI,eG];constructor
      ·intro a
       refine⟨x,.inr ⟨A,.inr (.inl ⟨.inl rfl,rfl,?_⟩)⟩⟩
       exact yX fun b=>by rw[dJ b]at a;cases a
      ·rintro⟨_,a | ⟨_,a⟩⟩
       ·simp at a
       ·rcases a with ⟨b | b,_⟩ | ⟨_,_,a⟩ | ⟨b,_⟩
        ·simp at b
        ·simp at b
        ·have a:es=xs:=a
         rw[a];simp
        ·simp at b
     go_wp2_with fail;go_ret;exact⟨by first | rfl | simp,d.below⟩
    ·have f3:(j==3)=false:=by simpa using r
     obtain rfl:z=false:=by
      rw[← i.o];refine aM fun hu=>?_
      rcases hu.2 with a | ⟨_,a⟩
      ·simp at a
      ·rcases a with ⟨b | b,_⟩ | ⟨_,a,_⟩ | ⟨b,_⟩
       ·simp at b
       ·simp at b
       ·exact r a
       ·simp at b
     go_wp2_with fail;go_ret;exact⟨by first | rfl | simp,d.below⟩
   have f3:(f==3)=false:=by simpa using Z
   by_cases h4:f=4
   ·subst h4
    by_cases r:j=3
    ·subst r
     have N:(es.toList==xs.toList)=z:=by
      rw[← i.o,jI,eG];constructor
      ·intro a
       refine⟨x,.inr ⟨A,.inr (.inl ⟨.inr rfl,rfl,?_⟩)⟩⟩
       exact yX fun b=>by rw[dJ b]at a;cases a
      ·rintro⟨_,a | ⟨_,a⟩⟩
       ·simp at a
       ·rcases a with ⟨b | b,_⟩ | ⟨_,_,a⟩ | ⟨b,_⟩
        ·simp at b
        ·simp at b
        ·have a:es=xs:=a
         rw[a];simp
        ·simp at b
     go_wp2_with fail;go_ret;exact⟨by first | rfl | simp,d.below⟩
    ·have f3:(j==3)=false:=by simpa using r
     obtain rfl:z=false:=by
      rw[← i.o];refine aM fun hu=>?_
      rcases hu.2 with a | ⟨_,a⟩
      ·simp at a
      ·rcases a with ⟨b | b,_⟩ | ⟨_,a,_⟩ | ⟨b,_⟩
       ·simp at b
       ·simp at b
       ·exact r a
       ·simp at b
     go_wp2_with fail;go_ret;exact⟨by first | rfl | simp,d.below⟩
   have f4:(f==4)=false:=by simpa using h4
   by_cases h6:f=6
   ·subst h6
    have N:(j==6)=z:=by
     rw[← i.o,jI,beq_iff_eq,eG];constructor
     ·intro a
      exact⟨x,.inr ⟨A,.inr (.inr ⟨rfl,a⟩)⟩⟩
     ·rintro⟨_,a | ⟨_,a⟩⟩
      ·simp at a
      ·rcases a with ⟨b,a⟩ | ⟨b | b,_⟩ | ⟨b,a⟩
       ·simp at b
       ·simp at b
       ·simp at b
       ·exact a
    go_wp2_with fail;go_ret;exact⟨by first | rfl | simp,d.below⟩
   have f6:(f==6)=false:=by simpa using h6
   obtain rfl:z=false:=by
    rw[← i.o];refine aM fun hu=>?_
    rcases hu.2 with a | ⟨_,a⟩
    ·exact O a
    ·rcases a with ⟨b | b,_⟩ | ⟨b | b,_⟩ | ⟨b,_⟩
     ·exact X b
     ·exact Y b
     ·exact Z b
     ·exact h4 b
     ·exact h6 b
   go_wp2_with fail;go_ret;exact⟨by first | rfl | simp,d.below⟩
  ·have fn:((m:Int) != (q:Int))=true:=by simp;omega
   have fn2:(m != q)=true:=by simpa using t
   obtain rfl:z=false:=by
    rw[← i.o];refine aM fun hu=>?_
    rcases hu.2 with a | ⟨a,_⟩
    ·exact O a
    ·exact t (by rw[← C.o,← B.o];exact a)
   go_wp2_with fail;go_ret;exact⟨by first | rfl | simp,d.below⟩
end Cs
namespace Cs
open Tr Cx Sp Rw Classical
theorem J8 (s:ByteArray):∀ m:List ByteArray,m.Pairwise cK→∃ e:List ByteArray,e.Pairwise cK∧e.length≤m.length+1∧∀ x,x∈e↔x=s∨x∈m
 | [],_=>⟨[s],by simp,by simp,by simp⟩
 | a::m,h=>by
  obtain⟨f,i⟩:=fq.1 h
  rcases aQ.tri s a with d | d | d
  ·refine⟨s::a::m,fq.2 ⟨fun x b=>?_,h⟩,by simp,fun x=>jJ⟩
   rcases jJ.1 b with rfl | b
   ·exact d
   ·exact aQ.tr _ _ _ d (f x b)
  ·subst d
   exact⟨s::m,h,by simp,fun x=>by rw[jJ];constructor <;> intro h <;> simp_all⟩
  ·obtain⟨e,j,h5,g⟩:=J8 s m i
   refine⟨a::e,fq.2 ⟨fun x b=>?_,j⟩,by simp;omega,fun x=>?_⟩
   ·rcases (g x).1 b with rfl | b
    ·exact d
    ·exact f x b
   ·rw[jJ,g,jJ]
    constructor
    ·rintro (h | h | h)
     ·exact .inr (.inl h)
     ·exact .inl h
     ·exact .inr (.inr h)
    ·rintro (h | h | h)
     ·exact .inr (.inl h)
     ·exact .inl h
     ·exact .inr (.inr h)
theorem G8:∀ l:List ByteArray,∃ m,lF l m∧m.length≤l.length
 | []=>⟨[],⟨by simp,fun x=>Iff.rfl⟩,by simp⟩
 | a::l=>by
  obtain⟨m,b,h2⟩:=G8 l;obtain⟨f,d,h4,e⟩:=J8 a m b.rise;exact⟨f,⟨d,fun x=>by rw[e,b.mem,jJ]⟩,by simp;omega⟩
theorem sQ {a b:ByteArray} (h:cK a b):Op.bytesLess a.toList b.toList=true:=h
theorem zP {a b:ByteArray} (h:¬cK a b):Op.bytesLess a.toList b.toList=false:=by
 cases d:Op.bytesLess a.toList b.toList with
 | false=>rfl
 | true=>exact absurd d h
theorem MX {a b:ByteArray} (h:cK a b):¬a=b:=fun e=>by subst e;exact aQ.irr _ h
theorem yR (l m:List ByteArray) (n q:Nat) (A:Option Addr) (c:Nat) (w:World) (hs:lF l m) (hq:m.length=q) (hq8:q≤1000) (hn:n≤1000) (hr:Rd w w.heap.size 1 A n c (strs l)) :
  Calls Tryz.prog 76 #[.slice A n c] w fun e w'=>∃ (A':Option Addr) (c':Nat),e = .returned (.slice A' q c')∧ai (Own w' w.heap.size 9 1 A' q c' (strs m))∧av w w':=by
 have HA:=ah hr;have O:=ah (bM hr);have HS:=ah hs;have L:=ah hq;clear hr hs hq;go_enter Tryz.func76,Tryz.ntmps76;go_wp2_with fail
 go_loopw [3] (fun v wr=>∃ (i:Nat) (M:Option Addr) (R:Nat),i≤q∧v = .slice M i R∧ai (Own wr w.heap.size 9 1 M i R (strs (m.take i)))∧ai (av w wr)) (fun v _=>q+1-dS (some v))
 case atStart=>exact⟨0,none,0,by omega,rfl,⟨iy _ _ _ _,by simp[Tr.strs]⟩,bN⟩
 case round=>
  obtain⟨i,M,R,hi,rfl,HO,t⟩:=hrel;obtain⟨wo,NA⟩:∃ W,W=wr:=⟨_,rfl⟩;subst NA;go_wp2_with fail
  go_loopw [4,5,9] (fun b s z wr=>∃ (k:Nat) (x:Option ByteArray),k≤n∧z = .int .i64 k∧b = .string (qU x)∧s = .bool x.isSome∧ai (bq cK (l.take k) (pF cK m i) x)∧ai (av wo wr)) (fun _ _ z _=>n-(intOf z).toNat)
  case atStart=>exact⟨0,none,by omega,rfl,rfl,rfl,by unfold ai;intro y H;simp at H,bN⟩
  case round=>
   obtain⟨k,x,hk,rfl,rfl,rfl,j,d⟩:=hrel
   by_cases N_:k<n
   ·have Y:k<l.length:=by rw[O.o];exact N_
    have S:=t.trans (d.mono t.size);obtain⟨g,o,rfl,N8,hc⟩:=gM HA (by omega);have q0:=(S.cell (p:=⟨g,o+k,none⟩) N8).trans (hc k Y);have G:l.take (k+1)=l.take k++[l[k]]:=dZ Y;obtain⟨y,H⟩:∃ y,y=l[k]:=⟨_,rfl⟩;rw[← H]at q0 G;have r:=ah G;clear hc S G H
    by_cases N9:i=0
    ·have fi:((i:Int)==0)=true:=by simp[N9]
     have B:pF cK m i y:=fun h _=>absurd h (by omega)
     cases x with
     | none=>
      have a:ai (bq cK (l.take (k+1)) (pF cK m i) (some y)):=by
       unfold ai;rw[r.o];exact nP aQ.irr B j
      go_wp2_with fail
      go_quiet (fail)
      go_wp2_with fail;go_roundw
      case rel=>exact⟨k+1,(some y),by omega,by go_num,rfl,rfl,a,aK d _⟩
      case measure=>simp[intOf];omega
     | some b=>
      by_cases f:cK y b
      ·have f8:Op.bytesLess y.toList (qU (some b)).toList=true:=sQ f
       have f9:Op.bytesLess y.toList b.toList=true:=sQ f
       have a:ai (bq cK (l.take (k+1)) (pF cK m i) (some y)):=by
        unfold ai;rw[r.o];exact lS aQ.irr aQ.tr B f j
       go_wp2_with fail
       go_quiet (fail)
       go_wp2_with fail;go_roundw
       case rel=>exact⟨k+1,(some y),by omega,by go_num,rfl,rfl,a,aK d _⟩
       case measure=>simp[intOf];omega
      ·have f8:Op.bytesLess y.toList (qU (some b)).toList=false:=zP f
       have f9:Op.bytesLess y.toList b.toList=false:=zP f
       have a:ai (bq cK (l.take (k+1)) (pF cK m i) (some b)):=by
        unfold ai;rw[r.o];exact nQ f j
       go_wp2_with fail
       go_quiet (fail)
       go_wp2_with fail;go_roundw
       case rel=>exact⟨k+1,(some b),by omega,by go_num,rfl,rfl,a,aK d _⟩
       case measure=>simp[intOf];omega
    ·have fi:((i:Int)==0)=false:=by rw[gP];omega
     obtain⟨g2,o2,rfl,V,U⟩:=gM HO.rd (by omega)
     have u:i-1<(m.take i).length:=by rw[l7,L.o];omega
     have X:i-1<m.length:=by rw[L.o];omega
     have r0:=(d.cell (p:=⟨g2,o2+(i-1),none⟩) V).trans (U (i-1) u);rw[List.getElem_take]at r0;have hA:pF cK m i y↔cK m[i-1] y:=⟨fun h=>h (by omega) X,fun h _ _=>h⟩;obtain⟨J,Z⟩:∃ z,z=m[i-1]:=⟨_,rfl⟩;rw[← Z]at r0 hA
     have hkm:IntKind.i64.wrap ((i:Int)-1)=((i-1:Nat):Int):=by rw[iN];omega
     have hkm2:((i-1:Nat):Int)<(i:Int):=by omega
     have hkm3:(0:Int)≤((i-1:Nat):Int):=by omega
     clear U Z u
     by_cases C:cK J y
     ·have f4:Op.bytesLess y.toList J.toList=false:=zP (aQ.asym C)
      have f5:(y.toList==J.toList)=false:=dJ fun e=>MX C e.symm;have B:=hA.2 C
      cases x with
      | none=>
       have a:ai (bq cK (l.take (k+1)) (pF cK m i) (some y)):=by
        unfold ai;rw[r.o];exact nP aQ.irr B j
       go_wp2_with fail
       go_quiet (fail)
       go_wp2_with fail;go_roundw
       case rel=>exact⟨k+1,(some y),by omega,by go_num,rfl,rfl,a,aK d _⟩
       case measure=>simp[intOf];omega
      | some b=>
       by_cases f:cK y b
       ·have f8:Op.bytesLess y.toList (qU (some b)).toList=true:=sQ f
        have f9:Op.bytesLess y.toList b.toList=true:=sQ f
        have a:ai (bq cK (l.take (k+1)) (pF cK m i) (some y)):=by
         unfold ai;rw[r.o];exact lS aQ.irr aQ.tr B f j
        go_wp2_with fail
        go_quiet (fail)
        go_wp2_with fail;go_roundw
        case rel=>exact⟨k+1,(some y),by omega,by go_num,rfl,rfl,a,aK d _⟩
        case measure=>simp[intOf];omega
       ·have f8:Op.bytesLess y.toList (qU (some b)).toList=false:=zP f
        have f9:Op.bytesLess y.toList b.toList=false:=zP f
        have a:ai (bq cK (l.take (k+1)) (pF cK m i) (some b)):=by
         unfold ai;rw[r.o];exact nQ f j
        go_wp2_with fail
        go_quiet (fail)
        go_wp2_with fail;go_roundw
        case rel=>exact⟨k+1,(some b),by omega,by go_num,rfl,rfl,a,aK d _⟩
        case measure=>simp[intOf];omega
     ·have Ny:¬pF cK m i y:=fun h=>C (hA.1 h)
      by_cases F:y=J
      ·subst F
       have f4:Op.bytesLess y.toList y.toList=false:=zP (aQ.irr _)
       have f5:(y.toList==y.toList)=true:=by simp
       have a:ai (bq cK (l.take (k+1)) (pF cK m i) x):=by
        unfold ai;rw[r.o];exact lT Ny j
       go_wp2_with fail
       go_quiet (fail)
       go_wp2_with fail;go_roundw
       case rel=>exact⟨k+1,x,by omega,by go_num,rfl,rfl,a,aK d _⟩
       case measure=>simp[intOf];omega
      ·have f4:Op.bytesLess y.toList J.toList=true:=sQ ((aQ.tri y J).resolve_right fun h=>h.elim F C)
       have f5:(y.toList==J.toList)=false:=dJ F
       have a:ai (bq cK (l.take (k+1)) (pF cK m i) x):=by
        unfold ai;rw[r.o];exact lT Ny j
       go_wp2_with fail
       go_quiet (fail)
       go_wp2_with fail;go_roundw
       case rel=>exact⟨k+1,x,by omega,by go_num,rfl,rfl,a,aK d _⟩
       case measure=>simp[intOf];omega
   ·obtain rfl:k=n:=by omega
    have hx:x=m[i]?:=by
     have h:=j.o;rw[eO (by rw[O.o];omega)]at h;exact xw aQ.irr aQ.tr (fun y=>(HS.mem y).symm) HS.rise (by rw[L.o];exact hi) h
    cases x with
    | none=>
     obtain rfl:q=i:=by have h:=List.getElem?_eq_none_iff.1 hx.symm;rw[L.o]at h;omega
     have N7:ai (Own wr w.heap.size 9 1 M q R (strs m)):=by
      have h1:=HO.o;rw[eO (by rw[L.o];omega)]at h1;exact aG h1 d
     have HB:=ah (t.trans (d.mono t.size));clear hx;go_wp2_with fail;go_ret;exact⟨M,R,rfl,N7,HB⟩
    | some y=>
     obtain⟨u,H⟩:=List.getElem?_eq_some_iff.1 hx.symm
     have hiq:i<q:=by rw[← L.o];exact u
     have D:=d.o;obtain⟨A6,c6,w6,r1,r2,r3⟩:=kJ wr w.heap.size wr.heap.size rfl (aG HO D) (aN t.size D.size) y (by omega)
     have Nz:ai (Own w6 w.heap.size 9 1 A6 (i+1) c6 (strs (m.take (i+1)))):=ah (by rw[dZ u,H];exact r2)
     have N:=ah ((t.trans (D.mono t.size)).trans r3);have Q:=ah r1;clear r1 r2 r3 hx H D u;go_wp2_with (at_builtin;refine Lib.wpList_append_run _ rfl _ _ _ _ rfl _ _ rfl rfl _ _ Q ?_);go_roundw
     case rel=>exact⟨i+1,A6,c6,by omega,rfl,Nz,N⟩
     case measure=>simp[dS];omega
end Cs
namespace Cs
open Tr Cx Sp Rw Classical
theorem Bv (a b:List ByteArray) (n m:Nat) (A B:Option Addr) (c d:Nat) (w:World) (hn:n≤1000) (C:Rd w w.heap.size 1 A n c (strs a)) (D:Rd w w.heap.size 1 B m d (strs b)) (z:Bool) (V:decide (a=b)=z) :
  Calls Tryz.prog 66 #[.slice A n c,.slice B m d] w fun e w'=>e = .returned (.bool z)∧av w w':=by
 have Q:=ah V;have W:=ah C;have X:=ah D;have r:=ah (bM C);have t:=ah (bM D);clear C D V
 by_cases v:n=m
 ·subst v
  have Y:(n != n)=false:=by simp
  go_enter Tryz.func66,Tryz.ntmps66;go_wp2
  go_loopw [13] (fun i wr=>∃ (k:Nat),k≤n∧i = .int .i64 k∧ai (a.take k=b.take k)∧ai (av w wr)) (fun i _=>n-(intOf i).toNat)
  case atStart=>exact⟨0,by omega,rfl,ah (by rw[List.take_zero,List.take_zero]),bN⟩
  case round=>
   obtain⟨k,hk,rfl,U,f⟩:=hrel
   by_cases J:k<n
   ·have G:k<a.length:=by rw[r.o];exact J
    have H:k<b.length:=by rw[t.o];exact J
    obtain⟨g,o,rfl,S,R⟩:=gM W (by omega);obtain⟨g2,o2,rfl,F,u⟩:=gM X (by omega);have q0:=(f.cell (p:=⟨g,o+k,none⟩) S).trans (R k G);have r0:=(f.cell (p:=⟨g2,o2+k,none⟩) F).trans (u k H);have j:a.take (k+1)=a.take k++[a[k]]:=dZ G;have q:b.take (k+1)=b.take k++[b[k]]:=dZ H;obtain⟨x,M⟩:∃ x,x=a[k]:=⟨_,rfl⟩;obtain⟨y,N⟩:∃ y,y=b[k]:=⟨_,rfl⟩;rw[← M]at q0 j;rw[← N]at r0 q
    by_cases L:x=y
    ·subst L
     have O:ai (a.take (k+1)=b.take (k+1)):=ah (by rw[j,q,U.o])
     clear R u j q M N;go_wp2
     go_quiet (fail)
     go_wp2;go_roundw
     case rel=>exact⟨k+1,by omega,by go_num,O,aK f _⟩
     case measure=>simp[intOf];omega
    ·have Z:(x.toList==y.toList)=false:=dJ L
     have f3:(x.toList != y.toList)=true:=by unfold bne;rw[Z];rfl
     obtain rfl:z=false:=by
      rw[← Q.o];refine aM fun e=>?_;subst e;exact L (M.trans N.symm)
     clear R u j q M N L;go_wp2
     go_quiet (fail)
     go_wp2;go_ret;exact⟨rfl,aK f _⟩
   ·obtain rfl:k=n:=by omega
    obtain rfl:z=true:=by
     rw[← Q.o];have h:=U.o;rw[eO (by rw[r.o];omega),eO (by rw[t.o];omega)]at h;exact aJ h
    go_wp2;go_ret;exact⟨rfl,f⟩
 ·have Y:(n != m)=true:=by simpa using v
  have f1:((n:Int) != (m:Int))=true:=by simp;omega
  obtain rfl:z=false:=by
   rw[← Q.o];refine aM fun e=>v ?_;rw[← r.o,← t.o,e]
  go_enter Tryz.func66,Tryz.ntmps66;go_wp2;go_ret;exact⟨rfl,bN⟩
end Cs
namespace Cs
open Tr Cx Sp Rw Classical
theorem Bp (W:World) (base q:Nat) (g:W.heap.size=q) (d:base≤W.heap.size) {A:Option Addr} {n c:Nat} {l:List jw} (e:l.length=n) (h:Own W base 79 7 A n c (l.flatMap tY)) (x:jw) (f:n≤900000) :
  ∃ A' c' w',(Builtin.append_ #[65,65] 65 #[.slice A n c,.slice (some ⟨q,0,none⟩) 1 1]).run Tryz.prog (W.alloc (.cells (tY x).toArray 79)) = .ok (.slice A' (n+1) c') w'∧Own w' base 79 7 A' (n+1) c' ((l++[x]).flatMap tY)∧Below base W w':=by
 subst e;obtain⟨A',c',w',a,b,i⟩:=Rw.push AV wC Tryz.underlying65 EF rfl (by omega) (by omega) W base q g d _ l h.row x _ rfl f;rw[bP]at a b;exact⟨A',c',w',a,b,i⟩
end Cs
end
section
namespace Cs
open Tr Cx Sp Rw Classical
noncomputable def Ef (all:List Ev) (c:List S3):List Ev:=all.filter fun y=>decide (aD c y.d.1 y.d.2=true∧mR all c y)
theorem fM {all:List Ev} {c:List S3} {y:Ev} : y∈Ef all c↔y∈all∧aD c y.d.1 y.d.2=true∧mR all c y:=by
 unfold Ef;rw[qR,eG]
theorem wV {all:List Ev} {k:K} (h:Knows all k) {p:List ByteArray} {q:Int×Int} {e:E} : aU k.1 p q=some e↔∃ y∈Ef all k.2,y.d=q∧bL y.o=p∧eT y=e:=by
 rw[h.Cj];constructor
 ·rintro⟨y,f,hd,m,b,a,n⟩
  exact⟨y,fM.2 ⟨f,by rw[hd];exact m,n⟩,hd,b,a⟩
 ·rintro⟨y,f,hd,b,a⟩
  obtain⟨g,i,j⟩:=fM.1 f;exact⟨y,g,hd,by rw[← hd];exact i,b,a,j⟩
theorem Cm {all:List Ev} {k:K} (h:Knows all k) {p:List ByteArray} {e:E} : e∈(aI k.1 p).es↔∃ y∈Ef all k.2,bL y.o=p∧eT y=e:=by
 rw[AU (d:=4) (cB h.right.tree p),gU,kR,wV h];constructor
 ·rintro⟨y,f,_,b,a⟩
  exact⟨y,f,b,a⟩
 ·rintro⟨y,f,b,a⟩
  exact⟨y,f,by rw[← a];rfl,b,a⟩
theorem JA {d:Nat} {t:T} (h:au (d+1) t) {s:ByteArray} : s∈keysOf t.ks↔∃ p q e,aU t (s::p) q=some e:=by
 constructor
 ·intro b
  obtain⟨x,g,rfl⟩:=dH.1 b
  cases t with
  | mk es ks=>
   have f:=h.2.2.2 x g;obtain⟨p,q,e,a⟩:=ve d f.2.2 f.2.1;refine⟨p,q,e,?_⟩;rw[nD,show aR (T.mk es ks).ks x.1=x.2 from sJ h.2.2.1 g];exact a
 ·rintro⟨p,q,e,a⟩
  refine yX fun b=>?_;rw[nD,xg b,iC]at a
  cases a
theorem zX {all:List Ev} {k:K} (i:jc all) (h:Knows all k) {p:List ByteArray} (m:f_ p) (q:bD p=1):(aI k.1 p).es≠[]↔∃ y∈Ef all k.2,p <+: y.o.path:=by
 constructor
 ·intro f
  obtain⟨e,d⟩:=List.exists_mem_of_ne_nil _ f;obtain⟨y,b,a,_⟩:=(Cm h).1 d;exact⟨y,b,(mM m (i.ok y (fM.1 b).1)).1 (by rw[a];exact List.prefix_refl _)⟩
 ·rintro⟨y,b,a⟩ f
  have j:=i.ok y (fM.1 b).1;have n:=j.act;unfold dI at n
  have e:p=y.o.path:=yX fun e=>by
   have:=qf j.path m.some a e;omega
  have g:y.o.act≠3:=fun g=>by rw[e]at q;omega
  have d:=(Cm h (p:=p) (e:=eT y)).2 ⟨y,b,by unfold bL;rw[if_neg g,e],rfl⟩;rw[f]at d
  cases d
theorem nV {all:List Ev} (b:jc all) {y:Ev} (f:y∈all) {p:List ByteArray} (d:f_ p) (a:bD p≠5) (h:p <+: y.o.path):p=y.o.path:=yX fun e=>a (qf (b.ok y f).path d.some h e)
theorem Kb {all:List Ev} {k:K} (i:jc all) (h:Knows all k) {p:List ByteArray} (n:f_ p) (v:bD p=2) (s:ByteArray):s∈jd (aI k.1 p)↔∃ y∈Ef all k.2,p <+: y.o.path∧y.o.s=s:=by
 rw[H7 (d:=4) (cB h.right.tree p)];constructor
 ·rintro⟨q,e,r⟩
  rw[gU,wV h]at r;obtain⟨y,b,_,a,_⟩:=r;have j:=i.ok y (fM.1 b).1;have m:=j.act;unfold dI at m;have g:p <+: y.o.path:=(mM n j).1 (by rw[a];exact List.prefix_append _ _);have e:=nV i (fM.1 b).1 n (by omega) g;refine⟨y,b,g,?_⟩;unfold bL at a
  split at a
  ·rw[← e]at a
   have:=List.append_cancel_left a;injection this
  ·rw[← e]at a
   have:=congrArg List.length a
   simp at this
 ·rintro⟨y,b,g,rfl⟩
  have f:=(fM.1 b).1;have j:=i.ok y f;have m:=j.act;unfold dI at m;have e:=nV i f n (by omega) g;have u:=(fM.1 b).2.2.1;unfold brings at u;rw[e]at v
  have t:y.o.act=3:=by omega
  refine⟨y.d,eT y,?_⟩;rw[gU,wV h];exact⟨y,b,rfl,by unfold bL;rw[if_pos t,e],rfl⟩
theorem Ka {all:List Ev} {k:K} (f:jc all) (h:Knows all k) {p:List ByteArray} (n:f_ p) (r:bD p=4) (s:ByteArray):s∈(aI k.1 p).es.map E.s↔∃ y∈Ef all k.2,p <+: y.o.path∧y.o.s=s:=by
 rw[dH];constructor
 ·rintro⟨e,t,rfl⟩
  obtain⟨y,a,q,rfl⟩:=(Cm h).1 t;have g:=f.ok y (fM.1 a).1;have j:=g.act;unfold dI at j;have d:p <+: y.o.path:=(mM n g).1 (by rw[q];exact List.prefix_refl _);have e:=nV f (fM.1 a).1 n (by omega) d;have m:=(fM.1 a).2.2.1;unfold brings at m;rw[e]at r
  have i:y.o.act=6:=by omega
  refine⟨y,a,d,?_⟩
  show _=if y.o.act=6 then y.o.s else⟨#[]⟩
  rw[if_pos i]
 ·rintro⟨y,a,d,rfl⟩
  have b:=(fM.1 a).1;have g:=f.ok y b;have j:=g.act;unfold dI at j;have e:=nV f b n (by omega) d;have m:=(fM.1 a).2.2.1;unfold brings at m;rw[e]at r
  have i:y.o.act=6:=by omega
  refine⟨eT y,(Cm h).2 ⟨y,a,by unfold bL;rw[if_neg (by omega),e],rfl⟩,?_⟩
  show (if y.o.act=6 then y.o.s else⟨#[]⟩)=_
  rw[if_pos i]
theorem JZ {all:List Ev} {k:K} (B:jc all) (h:Knows all k) {p:List ByteArray} (C:f_ p) (z:bD p=5) (s:ByteArray):s∈keysOf (aI k.1 p).ks↔∃ y∈Ef all k.2,p <+: y.o.path∧y.o.path[p.length]?=some s:=by
 rw[JA (d:=4) (cB h.right.tree p)];constructor
 ·rintro⟨p',q,e,u⟩
  rw[gU,wV h]at u;obtain⟨y,j,_,f,_⟩:=u;have v:=B.ok y (fM.1 j).1;have w:=v.act;unfold dI at w;have g:p <+: y.o.path:=(mM C v).1 (by rw[f];exact List.prefix_append _ _);refine⟨y,j,g,?_⟩
  have a:(bL y.o)[p.length]?=some s:=by rw[f];simp
  unfold bL at a f
  split at a
  ·rename_i h3
   have t:p≠y.o.path:=fun e=>by rw[e]at z;omega
   have A:p.length<y.o.path.length:=Nat.lt_of_le_of_ne g.length_le fun e=>t (pre_eq g e.symm);rw[List.getElem?_append_left A]at a;exact a
  ·exact a
 ·rintro⟨y,j,g,a⟩
  have hya:=(fM.1 j).1;obtain⟨c,n⟩:=g
  have r:∃ m,c=s::m:=by
   rw[← n,List.getElem?_append_right (bG),Nat.sub_self]at a
   cases c with
   | nil=>cases a
   | cons x c=>
    simp at a
    exact⟨c,by rw[a]⟩
  obtain⟨m,rfl⟩:=r
  have:∃ b,bL y.o=p++s::b:=by
   unfold bL
   split
   ·exact⟨m++[y.o.s],by rw[← n];simp⟩
   ·exact⟨m,n.symm⟩
  obtain⟨b,i⟩:=this;refine⟨b,y.d,eT y,?_⟩;rw[gU,wV h];exact⟨y,j,rfl,i,rfl⟩
theorem Kv {a b:List Int} (h:a.Perm b):a.sum=b.sum:=by
 induction h with
 | nil=>rfl
 | cons x _ d=>rw[om,om,d]
 | swap x y l=>rw[om,om,om,om];omega
 | trans _ _ h1 h2=>exact h1.trans h2
theorem JY {all:List Ev} {k:K} (i:jc all) (h:Knows all k) {p:List ByteArray} (r:f_ p) (u:bD p=3):g_ (aI k.1 p).es=(((Ef all k.2).filter fun y=>decide (p <+: y.o.path)).map fun y=>y.o.n).sum:=by
 have z:=cB h.right.tree p
 have m:(aI k.1 p).es.Perm (((Ef all k.2).filter fun y=>decide (p <+: y.o.path)).map eT):=by
  refine (List.perm_ext_iff_of_nodup ?_ ?_).2 fun e=>?_
  ·exact (mP (d:=4) z).imp fun f e=>by rw[e]at f;exact fV.irr _ f
  ·unfold Ef
   refine List.Pairwise.map _ (fun x y q e=>q ?_) (((i.diff).filter _).filter _);exact congrArg aV e
  ·rw[Cm h,dH]
   constructor
   ·rintro⟨y,a,b,j⟩
    exact⟨y,qR.2 ⟨a,aJ ((mM r (i.ok y (fM.1 a).1)).1 (by rw[b];exact List.prefix_refl _))⟩,j⟩
   ·rintro⟨y,a,j⟩
    obtain⟨a,b⟩:=qR.1 a;have g:=(fM.1 a).1;have w:=i.ok y g;have t:=w.act;unfold dI at t;have e:=nV i g r (by omega) (jH b);rw[e]at u;exact⟨y,a,by unfold bL;rw[if_neg (by omega),e],j⟩
 unfold g_;rw[Kv (m.map fun e=>e.v),List.map_map];rfl
end Cs
namespace Cs
open Tr Cx Sp Rw Classical
theorem Hu {d:Nat} {t:T} (h:au (d+1) t):(keysOf t.ks).Pairwise cK:=by
 unfold keysOf;rw[List.pairwise_map];exact mO h
end Cs
end
section
open ChangeShapes WideShapes ChangeAt RowKit
namespace Cs
open Tr Cx Sp Rw Classical
theorem MQ (w:World) (d g e h:Int) (i j:Bool) (A B:Option Addr) (f a lb b:Nat):∃ (W:World) (p q:Nat),ai (W=((w.alloc (.cells #[.int .i64 d,.bool i,.int .i64 g,.slice A f a] 51)).alloc (.cells #[.int .i64 e,.bool j,.int .i64 h,.slice B lb b] 51)))∧ai (p=w.heap.size)∧ai (q=p+1)∧ai (Kept [(⟨p,0,none⟩,.int .i64 d),(⟨p,1,none⟩,.bool i),(⟨p,2,none⟩,.int .i64 g),(⟨p,3,none⟩,.slice A f a),(⟨q,0,none⟩,.int .i64 e),(⟨q,1,none⟩,.bool j),(⟨q,2,none⟩,.int .i64 h),(⟨q,3,none⟩,.slice B lb b)] w W):=by
 refine⟨_,_,_,rfl,rfl,rfl,?_⟩;have m:=Kept.a_ (show av w (((w.alloc (.cells #[.int .i64 d,.bool i,.int .i64 g,.slice A f a] 51)).alloc (.cells #[.int .i64 e,.bool j,.int .i64 h,.slice B lb b] 51))) from ((bN).alloc (bG) _).alloc (by simp) _)
 refine ((((((((m).af ?_).af ?_).af ?_).af ?_).af ?_).af ?_).af ?_).af ?_ <;> go_simp
theorem B_ (g i v C:Int) (j D:Bool) (a b:List ByteArray) (A B:Option Addr) (x G lb H:Nat) (w:World) (z:Bool) (Q:decide (g=v∧j=D∧i=C∧a=b)=z) (O:x≤1000) (t:Rd w w.heap.size 1 A x G (Tr.strs a)) (u:Rd w w.heap.size 1 B lb H (Tr.strs b)) :
  Calls Tryz.prog 25 #[.agg #[.int .i64 g,.bool j,.int .i64 i,.slice A x G],.agg #[.int .i64 v,.bool D,.int .i64 C,.slice B lb H]] w fun e w'=>e = .returned (.bool z)∧av w w':=by
 obtain⟨W,p,q,f,m,n,d⟩:=MQ w g i v C j D A B x G lb H;have S:=ah (t.later d.below);have U:=ah (u.later d.below);have F:=ah Q;have R:=ah O;clear Q O t u
 by_cases J:g=v
 ·subst J
  have V:(g==g)=true:=by simp
  by_cases L:j=D
  ·subst L
   have X:(j==j)=true:=by simp
   by_cases M:i=C
   ·subst M
    have Y:(i==i)=true:=by simp
    have N:ai (decide (a=b)=z):=by
     unfold ai;rw[← F.o];exact decide_eq_decide.2 ⟨fun h=>⟨rfl,rfl,rfl,h⟩,fun h=>h.2.2.2⟩
    obtain⟨c0,c1,c2,c3,c4,c5,c6,c7,-⟩:=d.cj;rw[f.o]at c0 c1 c2 c3 c4 c5 c6 c7;(try rw[n.o]at c0 c1 c2 c3 c4 c5 c6 c7);(try rw[m.o]at c0 c1 c2 c3 c4 c5 c6 c7);go_enter Tryz.func25,Tryz.ntmps25;go_wp2_with fail;rw[← f.o,← m.o]
    try rw[← n.o]
    refine (Bv a b x lb A B G H W R S U z N).mono ?_;rintro e v1 ⟨rfl,r⟩;have d:=ah (d.later r);clear r c0 c1 c2 c3 c4 c5 c6 c7;go_wp2_with fail;go_ret;exact⟨by first | rfl | simp,d.below⟩
   ·have Y:(i==C)=false:=by simpa using M
    obtain rfl:z=false:=by
     rw[← F.o];exact aM fun h=>M h.2.2.1
    clear M;obtain⟨c0,c1,c2,c3,c4,c5,c6,c7,-⟩:=d.cj;rw[f.o]at c0 c1 c2 c3 c4 c5 c6 c7;(try rw[n.o]at c0 c1 c2 c3 c4 c5 c6 c7);(try rw[m.o]at c0 c1 c2 c3 c4 c5 c6 c7);go_enter Tryz.func25,Tryz.ntmps25;go_wp2_with fail;go_ret;exact⟨by first | rfl | simp,by have h:=d.below;rw[f.o]at h;exact h⟩
  ·have X:(j==D)=false:=by simpa using L
   obtain rfl:z=false:=by
    rw[← F.o];exact aM fun h=>L h.2.1
   clear L;obtain⟨c0,c1,c2,c3,c4,c5,c6,c7,-⟩:=d.cj;rw[f.o]at c0 c1 c2 c3 c4 c5 c6 c7;(try rw[n.o]at c0 c1 c2 c3 c4 c5 c6 c7);(try rw[m.o]at c0 c1 c2 c3 c4 c5 c6 c7);go_enter Tryz.func25,Tryz.ntmps25;go_wp2_with fail;go_ret;exact⟨by first | rfl | simp,by have h:=d.below;rw[f.o]at h;exact h⟩
 ·have V:(g==v)=false:=by simpa using J
  obtain rfl:z=false:=by
   rw[← F.o];exact aM fun h=>J h.1
  clear J;obtain⟨c0,c1,c2,c3,c4,c5,c6,c7,-⟩:=d.cj;rw[f.o]at c0 c1 c2 c3 c4 c5 c6 c7;(try rw[n.o]at c0 c1 c2 c3 c4 c5 c6 c7);(try rw[m.o]at c0 c1 c2 c3 c4 c5 c6 c7);go_enter Tryz.func25,Tryz.ntmps25;go_wp2_with fail;go_ret;exact⟨by first | rfl | simp,by have h:=d.below;rw[f.o]at h;exact h⟩
end Cs
namespace Cs
open Tr Cx Sp Rw Classical
theorem kF {α:Type} (f:α→Bool) {l:List α} {k:Nat} (h:k<l.length):(l.take (k+1)).filter f=(l.take k).filter f++if f l[k]=true then [l[k]]else []:=by
 rw[dZ h,List.filter_append,List.filter_cons];rfl
theorem lV (l:List jw) (n:Nat) (A:Option Addr) (c:Nat) (u:List S3) (m:Nat) (B:Option Addr) (d:Nat) (w:World) (hn:n≤1000) (hl:pE w w.heap.size A n c l) (N7:u.length=m) (Z:m≤100000) (Nz:Rd w w.heap.size 3 B m d (aP u)) (N8:bA u=true) :
  Calls Tryz.prog 33 #[.slice A n c,.slice B m d] w fun e w'=>∃ (A':Option Addr) (q c':Nat),e = .returned (.slice A' q c')∧ai (pE w' w'.heap.size A' q c' (l.filter fun x=>fH u x.ev.d.1 x.ev.d.2))∧ai (q≤n)∧av w w':=by
 have HL:=ah hl;have HU:=ah (And.intro N7 (And.intro Z N8));have NA:=ah Nz;obtain⟨f,hf⟩:∃ f:jw→Bool,f=fun x=>fH u x.ev.d.1 x.ev.d.2:=⟨_,rfl⟩;rw[← hf]
 have HF:ai (∀ x:jw,fH u x.ev.d.1 x.ev.d.2=f x):=fun x=>by rw[hf]
 clear hl N7 Z Nz N8 hf;go_enter Tryz.func33,Tryz.ntmps33;go_wp2_with fail
 go_loopw [5,9] (fun v i wr=>∃ (k q:Nat) (D:Option Addr) (H:Nat),k≤n∧q≤k∧i = .int .i64 k∧v = .slice D q H∧ai (((l.take k).filter f).length=q)∧ai (Own wr w.heap.size 79 7 D q H (((l.take k).filter f).flatMap tY))∧ai (av w wr)) (fun _ i _=>n-(intOf i).toNat)
 case atStart=>exact⟨0,0,none,0,by omega,by omega,rfl,rfl,rfl,⟨iy _ _ _ _,by simp⟩,bN⟩
 case round=>
  obtain⟨k,q,D,H,hk,hq,rfl,rfl,C,HO,a⟩:=hrel
  by_cases NE:k<n
  ·have NC:=ah ((NA.below a).more a.size)
   have S:k<l.length:=by rw[HL.o.len];exact NE
   obtain⟨b,o,rfl,h,hc⟩:=HL.at_ (by omega);obtain⟨J,L,M,N,O,Q,R⟩:=hc k S;have J:=(a.cell (p:=⟨b,o+k*7,none⟩) h).trans J;have L:=(a.cell (p:=⟨b,o+k*7+1,none⟩) h).trans L;have M:=(a.cell (p:=⟨b,o+k*7+2,none⟩) h).trans M;have N:=(a.cell (p:=⟨b,o+k*7+3,none⟩) h).trans N;have O:=(a.cell (p:=⟨b,o+k*7+4,none⟩) h).trans O;have Q:=(a.cell (p:=⟨b,o+k*7+5,none⟩) h).trans Q;have R:=(a.cell (p:=⟨b,o+k*7+6,none⟩) h).trans R;obtain⟨x,V⟩:∃ x,x=l[k]:=⟨_,rfl⟩
   have Ny:x∈l:=by rw[V];exact bT S
   rw[← V]at J L M N O Q R;have j:=kF f S;rw[← V]at j;obtain⟨z,hz⟩:∃ z,f x=z:=⟨_,rfl⟩;rw[hz]at j
   have U:fH u x.ev.d.1 x.ev.d.2=z:=by rw[HF.o,hz]
   obtain⟨y,hy⟩:∃ y,y=x:=⟨_,rfl⟩;rw[← hy]at j;have r:=ah j;have HY:=ah hy;clear hc V j hz h Ny hy;obtain⟨⟨⟨d1,d2⟩,⟨xp,xa,xs,xv⟩,sn⟩,⟨pA,pn,pc⟩,⟨qA,qn,qc⟩⟩:=x;dsimp only at J L M N O Q R U;have HZ:=ah U;clear U;go_wp2_with fail;refine (iK u m B d d1 d2 wr HU.1 HU.2.1 NC HU.2.2 z HZ).mono ?_;rintro e w2 ⟨rfl,g⟩;have Y:=a.trans (g.mono a.size);have W:=ah (aG HO g);have J:=(g.cell (p:=⟨b,o+k*7,none⟩) (aL _ _ J)).trans J;have L:=(g.cell (p:=⟨b,o+k*7+1,none⟩) (aL _ _ L)).trans L;have M:=(g.cell (p:=⟨b,o+k*7+2,none⟩) (aL _ _ M)).trans M;have N:=(g.cell (p:=⟨b,o+k*7+3,none⟩) (aL _ _ N)).trans N
   have O:=(g.cell (p:=⟨b,o+k*7+4,none⟩) (aL _ _ O)).trans O;have Q:=(g.cell (p:=⟨b,o+k*7+5,none⟩) (aL _ _ Q)).trans Q;have R:=(g.cell (p:=⟨b,o+k*7+6,none⟩) (aL _ _ R)).trans R;have F:=ah Y;clear g Y
   cases z with
   | false=>
    have G:ai (Own w2 w.heap.size 79 7 D q H (((l.take (k+1)).filter f).flatMap tY)):=by
     unfold ai;rw[r.o,if_neg (by simp),kR];exact W.o
    have t:ai (((l.take (k+1)).filter f).length=q):=by
     unfold ai;rw[r.o,if_neg (by simp),kR];exact C.o
    go_wp2_with fail;go_roundw
    case rel=>exact⟨k+1,q,D,H,by omega,by omega,by go_num,rfl,t,G,F⟩
    case measure=>simp[intOf];omega
   | true=>
    obtain⟨A6,c6,w6,r1,r2,r3⟩:=Bp w2 w.heap.size w2.heap.size rfl F.size C W y (by omega)
    have t:ai (((l.take (k+1)).filter f).length=q+1):=by
     unfold ai;rw[r.o,if_pos rfl,bP,C.o];rfl
    have G:ai (Own w6 w.heap.size 79 7 A6 (q+1) c6 (((l.take (k+1)).filter f).flatMap tY)):=by
     unfold ai;rw[r.o,if_pos rfl];exact r2
    have N9:=ah (F.trans r3);rw[HY.o]at r1;have X:=ah r1;clear r1 r2 r3;go_wp2_with (at_builtin;refine Lib.wpList_append_run _ rfl _ _ _ _ rfl _ _ rfl rfl _ _ X ?_);go_roundw
    case rel=>exact⟨k+1,q+1,A6,c6,by omega,by omega,by go_num,rfl,t,G,N9⟩
    case measure=>simp[intOf];omega
  ·obtain rfl:k=n:=by omega
   have e9:l.take k=l:=eO (by rw[HL.o.len];exact bG)
   have N_:ai (pE wr wr.heap.size D q H (l.filter f)):=by
    have h1:=HO.o;have h2:=C.o;rw[e9]at h1 h2;exact⟨h2,h1.rd,fun x V=>((HL.each x ((qR.1 V).1)).below a).more a.size⟩
   clear e9;go_wp2_with fail;go_ret;exact⟨D,q,H,rfl,N_,hq,a⟩
end Cs
namespace Cs
open Tr Cx Sp Rw Classical
theorem yS (l:List jw) (n:Nat) (A:Option Addr) (c:Nat) (x:jw) (w:World) (z:Bool) (hz:decide (brings x.ev.o.act∧∀ y∈l,fH y.ev.seen x.ev.d.1 x.ev.d.2=true→¬oU y.ev.o x.ev.o)=z) (hn:n≤1000) (hl:pE w w.heap.size A n c l) (N9:Rd w w.heap.size 1 x.p.A x.p.n x.p.c (Tr.strs x.ev.o.path)) (X:∀ y∈l,bA y.ev.seen=true∧y.ev.seen.length=y.q.n∧y.q.n≤100000∧y.p.n≤1000) :
  Calls Tryz.prog 75 #[.slice A n c,.agg (tY x).toArray] w fun e w'=>e = .returned (.bool z)∧av w w':=by
 obtain⟨⟨⟨O,Q⟩,⟨xp,N,U,V⟩,xt⟩,⟨xA,xn,xc⟩,⟨xB,xm,xd⟩⟩:=x;dsimp only at hz N9;show Calls Tryz.prog 75 #[.slice A n c,.agg #[.int .i64 O,.int .i64 Q,.slice xA xn xc,.int .i64 N,.string U,.int .i64 V,.slice xB xm xd]] w _;obtain⟨g,hg⟩:∃ g,g=w.heap.size:=⟨_,rfl⟩;obtain⟨W,hW⟩:∃ W,W=w.alloc (.cells #[.int .i64 O,.int .i64 Q,.slice xA xn xc,.int .i64 N,.string U,.int .i64 V,.slice xB xm xd] 79):=⟨_,rfl⟩
 have NF:av w W:=by rw[hW];exact Dt.ay _ _ _
 have f:ai (Kept [(⟨g,0,none⟩,.int .i64 O),(⟨g,1,none⟩,.int .i64 Q),(⟨g,2,none⟩,.slice xA xn xc),(⟨g,3,none⟩,.int .i64 N),(⟨g,4,none⟩,.string U),(⟨g,5,none⟩,.int .i64 V),(⟨g,6,none⟩,.slice xB xm xd)] w W):=by
  have h0:=Kept.a_ NF
  refine (((((((h0.af ?_).af ?_).af ?_).af ?_).af ?_).af ?_).af ?_) <;> (rw[hW,hg];go_simp)
 have HL:=ah hl;have NI:=ah N9;have N_:=ah X;have HZ:=ah hz;have HG:=ah hg;have HW:=ah hW;clear hl N9 X hz hg hW NF;obtain⟨br,NG⟩:∃ b,decide (brings N)=b:=⟨_,rfl⟩;have Y:=ah NG;clear NG;obtain⟨c0,c1,c2,c3,c4,c5,c6,-⟩:=f.cj;go_enter Tryz.func75,Tryz.ntmps75;go_wp2_with fail;rw[← HG.o,← HW.o];refine (jC N W br Y).mono ?_;rintro e v1 ⟨rfl,m⟩;have f:=ah (f.later m);clear m;clear c0 c1 c2 c3 c4 c5 c6
 cases br with
 | false=>
  obtain rfl:z=false:=by
   rw[← HZ.o];exact aM fun h=>absurd h.1 (yF Y)
  go_wp2_with fail;go_ret;exact⟨rfl,f.below⟩
 | true=>
  go_wp2_with fail
  go_loopw [13] (fun i wr=>∃ (k:Nat),k≤n∧i = .int .i64 k∧ai (∀ (j:Nat) (h:j<l.length),j<k→fH (l[j]).ev.seen O Q=true→¬oU (l[j]).ev.o ⟨xp,N,U,V⟩)∧ai (Kept [(⟨g,0,none⟩,.int .i64 O),(⟨g,1,none⟩,.int .i64 Q),(⟨g,2,none⟩,.slice xA xn xc),(⟨g,3,none⟩,.int .i64 N),(⟨g,4,none⟩,.string U),(⟨g,5,none⟩,.int .i64 V),(⟨g,6,none⟩,.slice xB xm xd)] w wr)) (fun i _=>n-(intOf i).toNat)
  case atStart=>exact⟨0,by omega,rfl,fun j _ h=>absurd h (by omega),f⟩
  case round=>
   obtain⟨k,hk,rfl,HI,H⟩:=hrel;obtain⟨wo,NR⟩:∃ W,W=wr:=⟨_,rfl⟩;subst NR
   by_cases NP:k<n
   ·have C:=H.below
    have NH:k<l.length:=by rw[HL.o.len];exact NP
    obtain⟨b,o,rfl,D,hc⟩:=HL.at_ (by omega);obtain⟨e0,e1,e2,e3,e4,e5,e6⟩:=hc k NH;have e0:=(C.cell (p:=⟨b,o+k*7,none⟩) D).trans e0;have e1:=(C.cell (p:=⟨b,o+k*7+1,none⟩) D).trans e1;have e2:=(C.cell (p:=⟨b,o+k*7+2,none⟩) D).trans e2;have e3:=(C.cell (p:=⟨b,o+k*7+3,none⟩) D).trans e3;have e4:=(C.cell (p:=⟨b,o+k*7+4,none⟩) D).trans e4;have e5:=(C.cell (p:=⟨b,o+k*7+5,none⟩) D).trans e5;have e6:=(C.cell (p:=⟨b,o+k*7+6,none⟩) D).trans e6;obtain⟨y,hy⟩:∃ y,y=l[k]:=⟨_,rfl⟩
    have G:y∈l:=by rw[hy];exact bT NH
    rw[← hy]at e0 e1 e2 e3 e4 e5 e6;have N8:=N_.o y G;have N7:=((HL.each y G).below C).more C.size;obtain⟨h9,J⟩:∃ b,fH y.ev.seen O Q=b:=⟨_,rfl⟩;obtain⟨u9,L⟩:∃ b,decide (oU y.ev.o ⟨xp,N,U,V⟩)=b:=⟨_,rfl⟩
    have NA:ai (¬(h9=true∧u9=true)→(∀ (j:Nat) (h:j<l.length),j<(k+1)→fH (l[j]).ev.seen O Q=true→¬oU (l[j]).ev.o ⟨xp,N,U,V⟩)):=fun NQ j hj hjk=>by
     by_cases e:j=k
     ·subst e
      rw[← hy];intro h1 h2;exact NQ ⟨by rw[← J];exact h1,by rw[← L];exact aJ h2⟩
     ·exact HI.o j hj (by omega)
    have NE:ai (h9=true∧u9=true→z=false):=fun ⟨h1,h2⟩=>by
     rw[← HZ.o];refine aM fun h=>?_;refine h.2 y G (by rw[J];exact h1) (jH (L.trans h2))
    clear hc hy G D C;obtain⟨⟨⟨y1,y2⟩,⟨yp,ya,ys,yv⟩,yt⟩,⟨yA,yn,yc⟩,⟨yB,ym,yd⟩⟩:=y;dsimp only at e0 e1 e2 e3 e4 e5 e6 N8 J L;have Z:=ah J;have NC:=ah L;have B:=ah N8;have u:=ah N7.path;have r:=ah N7.seen;have t:=ah ((NI.below H.below).more H.below.size);have f:=ah (((((((H.af e6).af e5).af e4).af e3).af e2).af e1).af e0);clear J L N8 N7 e0 e1 e2 e3 e4 e5 e6;obtain⟨c0,c1,c2,c3,c4,c5,c6,c7,c8,c9,NJ,NK,NM,NN,-⟩:=f.cj;go_wp2_with fail;clear c0 c1 c2 c3 c4 c5 c6 c7 c8 c9 NJ NK NM NN
    cases h9 with
    | false=>
     refine Rg (S:=eB _) f.drew.cj (fun a=>?_);obtain⟨M,v,m⟩:=mW wo;obtain⟨f,u,r,t⟩:=iR m f u r t;clear m;rw[← v]at a ⊢;clear v;refine T4 0 16 1 17 2 18 3 19 ?_;refine T3 4 20 5 21 6 22 ?_;refine Tc 7 (fun K F=>?_);go_simp;(go_at_call 39;refine (iK yt ym yB yd O Q M B.2.1 B.2.2.1 r B.1 false Z).mono ?_);rintro e R ⟨rfl,m⟩;obtain⟨f,u,r,t⟩:=iR m f u r t;clear m;clear a;refine Th F ?_ (fun a=>?_)
     ·exact f.cj
     clear F K;refine Tk 8 24 ?_;refine U4 9 25 10 26 11 27 12 28 ?_;refine U4 13 29 14 30 15 31 16 32 ?_;refine Tk 17 33 ?_;refine Td ?_;clear a;have Ny:=ah (NA.o (by simp));have Nz:=ah (f.tail.tail.tail.tail.tail.tail.tail);go_wp2_with fail;go_roundw
     case rel=>exact⟨k+1,by omega,by go_num,Ny,Nz⟩
     case measure=>simp[intOf];omega
    | true=>
     cases u9 with
     | false=>
      refine Rg (S:=eB _) f.drew.cj (fun a=>?_);obtain⟨M,v,m⟩:=mW wo;obtain⟨f,u,r,t⟩:=iR m f u r t;clear m;rw[← v]at a ⊢;clear v;refine T4 0 16 1 17 2 18 3 19 ?_;refine T3 4 20 5 21 6 22 ?_;refine Tc 7 (fun K F=>?_);go_simp;(go_at_call 39;refine (iK yt ym yB yd O Q M B.2.1 B.2.2.1 r B.1 true Z).mono ?_);rintro e R ⟨rfl,m⟩;obtain⟨f,u,r,t⟩:=iR m f u r t;clear m;clear a;refine Th F ?_ (fun a=>?_)
      ·exact f.cj
      clear F K;refine T4 8 24 9 25 10 26 11 27 ?_;refine T4 12 28 13 29 14 30 15 31 ?_;refine Tc 16 (fun K F=>?_);go_simp;(go_at_call 127;refine (qY yp ya ys yv yA yn yc xp N U V xA xn xc R false NC B.2.2.2 u t).mono ?_);rintro e NS ⟨rfl,m⟩;obtain⟨f,u,r,t⟩:=iR m f u r t;clear m;clear a;refine Th F ?_ (fun a=>?_)
      ·exact f.cj
      clear F K;refine Tk 17 33 ?_;refine Td ?_;clear a;have Ny:=ah (NA.o (by simp));have Nz:=ah (f.tail.tail.tail.tail.tail.tail.tail);go_wp2_with fail;go_roundw
      case rel=>exact⟨k+1,by omega,by go_num,Ny,Nz⟩
      case measure=>simp[intOf];omega
     | true=>
      refine Rg (S:=eB _) f.drew.cj (fun a=>?_);obtain⟨M,v,m⟩:=mW wo;obtain⟨f,u,r,t⟩:=iR m f u r t;clear m;rw[← v]at a ⊢;clear v;refine T4 0 16 1 17 2 18 3 19 ?_;refine T3 4 20 5 21 6 22 ?_;refine Tc 7 (fun K F=>?_);go_simp;(go_at_call 39;refine (iK yt ym yB yd O Q M B.2.1 B.2.2.1 r B.1 true Z).mono ?_);rintro e R ⟨rfl,m⟩;obtain⟨f,u,r,t⟩:=iR m f u r t;clear m;clear a;refine Th F ?_ (fun a=>?_)
      ·exact f.cj
      clear F K;refine T4 8 24 9 25 10 26 11 27 ?_;refine T4 12 28 13 29 14 30 15 31 ?_;refine Tc 16 (fun K F=>?_);go_simp;(go_at_call 127;refine (qY yp ya ys yv yA yn yc xp N U V xA xn xc R true NC B.2.2.2 u t).mono ?_);rintro e NS ⟨rfl,m⟩;obtain⟨f,u,r,t⟩:=iR m f u r t;clear m;clear a;refine Th F ?_ (fun a=>?_)
      ·exact f.cj
      clear F K;refine Tk 17 33 ?_;refine Td ?_;clear a;obtain rfl:z=false:=NE.o ⟨rfl,rfl⟩;go_wp2_with fail;go_ret;exact⟨rfl,f.below⟩
   ·obtain rfl:k=n:=by omega
    obtain rfl:z=true:=by
     rw[← HZ.o];refine aJ ⟨jH Y,fun y hy=>?_⟩;obtain⟨j,hj,rfl⟩:=qz hy;exact HI.o j hj (by have:=HL.len;omega)
    go_wp2_with fail;go_ret;exact⟨rfl,H.below⟩
end Cs
namespace Cs
open Tr Cx Sp Rw Classical
def KE (l:List jw) (x:jw):Prop:=brings x.ev.o.act∧∀ y∈l,fH y.ev.seen x.ev.d.1 x.ev.d.2=true→¬oU y.ev.o x.ev.o
noncomputable def je (l:List jw) (p:List ByteArray) (x:jw):Bool:=decide (p <+: x.ev.o.path)&&decide (KE l x)
def kD (kd:Nat) (p:List ByteArray) (x:jw):List ByteArray:=if p.length<x.ev.o.path.length then (x.ev.o.path[p.length]?).toList else if kd=2∨kd=4 then [x.ev.o.s]else []
def JM (kd:Nat) (p:List ByteArray) (x:jw):Bool:=decide (¬p.length<x.ev.o.path.length∧kd=1)
def numOf (kd:Nat) (p:List ByteArray) (x:jw):Int:=if ¬p.length<x.ev.o.path.length∧kd=3 then x.ev.o.n else 0
noncomputable def dY (kd:Nat) (p:List ByteArray) (l h:List jw):List ByteArray:=(h.filter (je l p)).flatMap (kD kd p)
noncomputable def II (kd:Nat) (p:List ByteArray) (l h:List jw):Bool:=(h.filter (je l p)).any (JM kd p)
noncomputable def qN (kd:Nat) (p:List ByteArray) (l h:List jw):Int:=((h.filter (je l p)).map (numOf kd p)).sum
section
variable {kd:Nat} {p:List ByteArray} {l:List jw} {k:Nat} {y:jw}
theorem y8 (b:k<l.length) (d:y=l[k]) (a:je l p y=true):(l.take (k+1)).filter (je l p)=(l.take k).filter (je l p)++[y]:=by
 rw[kF _ b,← d,if_pos a]
theorem vo (b:k<l.length) (d:y=l[k]) (a:je l p y=false):(l.take (k+1)).filter (je l p)=(l.take k).filter (je l p):=by
 rw[kF _ b,← d,if_neg (by rw[a];simp),kR]
theorem I6 (b:k<l.length) (d:y=l[k]) (a:je l p y=true):dY kd p l (l.take (k+1))=dY kd p l (l.take k)++kD kd p y:=by
 unfold dY;rw[y8 b d a,List.flatMap_append];simp
theorem M0 (b:k<l.length) (d:y=l[k]) (a:je l p y=true):II kd p l (l.take (k+1))=(II kd p l (l.take k)||JM kd p y):=by
 unfold II;rw[y8 b d a,List.any_append];simp
theorem Gu (b:k<l.length) (d:y=l[k]) (a:je l p y=true):qN kd p l (l.take (k+1))=qN kd p l (l.take k)+numOf kd p y:=by
 unfold qN;rw[y8 b d a,mD,List.sum_append];simp
theorem F9 (b:k<l.length) (d:y=l[k]) (a:je l p y=false):dY kd p l (l.take (k+1))=dY kd p l (l.take k):=by
 unfold dY;rw[vo b d a]
theorem Lh (b:k<l.length) (d:y=l[k]) (a:je l p y=false):II kd p l (l.take (k+1))=II kd p l (l.take k):=by
 unfold II;rw[vo b d a]
theorem CS (b:k<l.length) (d:y=l[k]) (a:je l p y=false):qN kd p l (l.take (k+1))=qN kd p l (l.take k):=by
 unfold qN;rw[vo b d a]
theorem Gt (b:∀ y∈l,-1099511627776≤y.ev.o.n∧y.ev.o.n≤1099511627776):∀ k,k≤l.length → -(1099511627776*(k:Int))≤qN kd p l (l.take k)∧qN kd p l (l.take k)≤1099511627776*(k:Int)
 | 0,_=>by unfold qN;simp
 | k+1,hk=>by
  have ih:=Gt b k (by omega)
  have a:k<l.length:=by omega
  cases d:je l p l[k]with
  | false=>rw[CS a rfl d];omega
  | true=>
   rw[Gu a rfl d];have e:=b _ (bT a)
   have h2 : -1099511627776≤numOf kd p l[k]∧numOf kd p l[k]≤1099511627776:=by
    unfold numOf
    split
    ·exact e
    ·omega
   omega
end
theorem Dp (l:List jw) (n:Nat) (A:Option Addr) (c:Nat) (p:List ByteArray) (pl:Nat) (PA:Option Addr) (pc:Nat) (w:World) (kd:Nat) (m:List ByteArray) (q:Nat) (on:Bool) (N:Int) (O_:bD p=kd) (hn:n≤100) (hl:pE w w.heap.size A n c l) (hpl0:0<pl) (Ph:pl≤1000) (hp:Rd w w.heap.size 1 PA pl pc (Tr.strs p)) (Oh:∀ y∈l,bA y.ev.seen=true∧y.ev.seen.length=y.q.n∧y.q.n≤100000∧y.p.n≤1000) (hb:∀ y∈l,-1099511627776≤y.ev.o.n∧y.ev.o.n≤1099511627776) (hm:lF (dY kd p l l) m) (hq:m.length=q) (OC:q≤1000) (OB:II kd p l l=on) (hN:qN kd p l l=N) :
  Calls Tryz.prog 34 #[.slice A n c,.slice PA pl pc] w fun e w'=>∃ (A':Option Addr) (c':Nat),e = .returned (.agg #[.int .i64 kd,.bool on,.int .i64 N,.slice A' q c'])∧ai (Rd w' w'.heap.size 1 A' q c' (Tr.strs m))∧av w w':=by
 obtain⟨M,rfl⟩:∃ M,pl=M+1:=⟨pl-1,by omega⟩;obtain⟨r,W,hr,hW,Ol,-,-,-,-⟩:=zi w (.int .i64 0) (.bool false) (.int .i64 0) (.slice none 0 0) 51
 have d:ai (Kept [(⟨r,0,none⟩,.int .i64 0),(⟨r,1,none⟩,.bool false),(⟨r,2,none⟩,.int .i64 0),(⟨r,3,none⟩,.slice none 0 0)] w W):=by
  have h0:=Kept.a_ Ol
  refine (((h0.af ?_).af ?_).af ?_).af ?_ <;> (rw[hW,hr];go_simp)
 have NS:=p_ hr hW;have Ov:=bM hp
 have NZ:M<p.length:=by omega
 obtain⟨bp,op,rfl,O8,O5⟩:=gM hp (by omega);have q0:=(Ol.cell (p:=⟨bp,op+M,none⟩) O8).trans (O5 M NZ)
 have Ot:d_ p[M]=kd:=by rw[← O_];exact (nO NZ Ov).symm
 obtain⟨kk,O9⟩:∃ x,x=p[M]:=⟨_,rfl⟩;rw[← O9]at q0 Ot
 have fw:IntKind.i64.wrap (M:Int)=(M:Int):=by rw[iN];omega
 have fx:IntKind.i64.wrap ((M:Int)+1-1)=(M:Int):=by rw[iN];omega
 have fy:(M:Int)<(M:Int)+1:=by omega
 have HL:=ah hl;have HP:=ah hp;have OP:=ah Ov;have Oe:=ah Oh;have Oz:=ah hb;have HM:=ah hm;have HQ:=ah (And.intro hq OC);have OU:=ah OB;have OQ:=ah hN;have OM:=ah Ot;have HR:=ah hr;have HW:=ah hW;rw[hW]at q0;clear hl hp Ov Oh hb hm hq OC OB hN Ot hr hW Ol O5 O9 NZ O_ O8;go_enter Tryz.func34,Tryz.ntmps34;go_wp2_with fail;rw[← HR.o,← HW.o];refine (kL kk W).mono ?_;rw[OM.o];rintro e v1 ⟨rfl,Nz⟩;obtain⟨d,NS⟩:=gI Nz d NS;obtain⟨v,v2,hv,Oa,Om,-,-,-,-⟩:=zi v1 (.int .i64 kd) (.bool false) (.int .i64 0) (.slice none 0 0) 51
 have Ow:r<v:=by rw[hv];exact aL _ _ d.c0
 have OO:ai (Kept [(⟨v,0,none⟩,.int .i64 kd),(⟨v,1,none⟩,.bool false),(⟨v,2,none⟩,.int .i64 0),(⟨v,3,none⟩,.slice none 0 0),(⟨r,0,none⟩,.int .i64 0),(⟨r,1,none⟩,.bool false),(⟨r,2,none⟩,.int .i64 0),(⟨r,3,none⟩,.slice none 0 0)] w v2):=by
  have h0:=d.later Om
  refine (((h0.af ?_).af ?_).af ?_).af ?_ <;> (rw[Oa,hv];go_simp)
 have g:ai (v<v2.heap.size∧w.heap.size≤v∧∀ j,v2.frozen? ⟨v,j,none⟩=false):=⟨by rw[Oa,hv];simp,by rw[hv];exact d.below.size,fun j=>by rw[Oa,hv];go_simp⟩;have NS:=ah (NS.later Om)
 have OY:ai (w.heap.size≤r):=ah (by rw[HR.o];exact bG)
 have OX:ai (¬r=v):=FL
 have NG:ai (r<v):=Ow;have Hv:=ah hv;have Pd:=ah Oa;clear hv Oa Om Nz d q0 fw fx fy Ow;go_wp2_with fail;rw[← Hv.o,← Pd.o]
 go_loopw [6,19] (fun tv i wr=>∃ (k qx:Nat) (Ax:Option Addr) (cx:Nat) (u:Bool) (O:Int),k≤n∧qx≤k∧i = .int .i64 k∧tv = .slice Ax qx cx∧ai (II kd p l (l.take k)=u∧qN kd p l (l.take k)=O)∧ai (Own wr v2.heap.size 9 1 Ax qx cx (Tr.strs (dY kd p l (l.take k))))∧ai (Kept [(⟨v,0,none⟩,.int .i64 kd),(⟨v,1,none⟩,.bool u),(⟨v,2,none⟩,.int .i64 O),(⟨v,3,none⟩,.slice none 0 0),(⟨r,0,none⟩,.int .i64 0),(⟨r,1,none⟩,.bool false),(⟨r,2,none⟩,.int .i64 0),(⟨r,3,none⟩,.slice none 0 0)] w wr)∧ai (aA v wr∧aA r wr∧v2.heap.size≤wr.heap.size)) (fun _ i _=>n-(intOf i).toNat)
 case atStart=>exact⟨0,0,none,0,false,0,by omega,by omega,rfl,rfl,⟨rfl,rfl⟩,⟨iy _ _ _ _,by simp[dY,Tr.strs]⟩,OO,⟨g.1,g.2.2⟩,NS,bG⟩
 case round=>
  obtain⟨k,qx,Ax,cx,u,O,hk,hqx,rfl,rfl,HT,HO,N8,HF⟩:=hrel
  by_cases Pe:k<n
  ·have N_:=N8.below
   have NM:k<l.length:=by rw[HL.o.len];exact Pe
   obtain⟨b,o,rfl,NK,hc⟩:=HL.at_ (by omega);obtain⟨e0,e1,e2,e3,e4,e5,e6⟩:=hc k NM;have e0:=(N_.cell (p:=⟨b,o+k*7,none⟩) NK).trans e0;have e1:=(N_.cell (p:=⟨b,o+k*7+1,none⟩) NK).trans e1;have e2:=(N_.cell (p:=⟨b,o+k*7+2,none⟩) NK).trans e2;have e3:=(N_.cell (p:=⟨b,o+k*7+3,none⟩) NK).trans e3;have e4:=(N_.cell (p:=⟨b,o+k*7+4,none⟩) NK).trans e4;have e5:=(N_.cell (p:=⟨b,o+k*7+5,none⟩) NK).trans e5;have e6:=(N_.cell (p:=⟨b,o+k*7+6,none⟩) NK).trans e6;obtain⟨y,hy⟩:∃ y,y=l[k]:=⟨_,rfl⟩
   have NQ:y∈l:=by rw[hy];exact bT NM
   rw[← hy]at e0 e1 e2 e3 e4 e5 e6;have Ou:=Oe.o y NQ;have Oo:=Oz.o y NQ;have O6:=((HL.each y NQ).below N_).more N_.size;have NV:=Gt (kd:=kd) (p:=p) Oz k (by omega);rw[HT.o.2]at NV;obtain⟨z1,Od⟩:∃ b,decide (p <+: y.ev.o.path)=b:=⟨_,rfl⟩;obtain⟨z2,Oy⟩:∃ b,decide (KE l y)=b:=⟨_,rfl⟩
   have NY:je l p y=(z1&&z2):=by unfold je;rw[Od,Oy]
   have NT:ai ((z1&&z2)=false→dY kd p l (l.take (k+1))=dY kd p l (l.take k)∧II kd p l (l.take (k+1))=u∧qN kd p l (l.take (k+1))=O):=fun h=>by
    rw[← NY]at h;exact⟨F9 NM hy h,(Lh NM hy h).trans HT.1,(CS NM hy h).trans HT.2⟩
   have O0:ai ((z1&&z2)=true→dY kd p l (l.take (k+1))=dY kd p l (l.take k)++kD kd p y∧II kd p l (l.take (k+1))=(u||JM kd p y)∧qN kd p l (l.take (k+1))=O+numOf kd p y):=fun h=>by
    rw[← NY]at h;exact⟨I6 NM hy h,by rw[M0 NM hy h,HT.o.1],by rw[Gu NM hy h,HT.o.2]⟩
   clear hc hy NQ NK N_ NY;obtain⟨⟨⟨y1,y2⟩,⟨yp,ya,ys,yv⟩,yt⟩,⟨yA,yn,yc⟩,⟨yB,ym,yd⟩⟩:=y;dsimp only at e0 e1 e2 e3 e4 e5 e6 Ou Oo Od;have OZ:=ah Od;have Pb:=ah Oy;have HLM:=ah Ou;have OJ:=ah Oo;have OL:=ah NV;have N9:=ah O6.path;have RP:=ah ((HP.below N8.below).more N8.below.size);have NN:ai (pE wr wr.heap.size (some ⟨b,o,none⟩) n c l):=⟨HL.len,(HL.row.below N8.below).more N8.below.size,fun x hx=>((HL.each x hx).below N8.below).more N8.below.size⟩;have z:=ah HF.1;have B:=ah HF.2.1;have C:ai (Low v2.heap.size wr):=HF.2.2;have d:=ah (((((((N8.af e6).af e5).af e4).af e3).af e2).af e1).af e0);clear Od Oy Ou Oo NV O6 e0 e1 e2 e3 e4 e5 e6 HF N8;have u2:=d.c2
   have u3:=d.c3;have u4:=d.c4;have u5:=d.c5;obtain⟨ob,Pj,OA,Oi,Nz,b0,b1,b2,b3⟩:=zi wr (.slice yA yn yc) (.int .i64 ya) (.string ys) (.int .i64 yv) 27;obtain⟨d,N9,RP,NN,z,B,C,HO⟩:=lZ Nz d N9 RP NN z B C HO;clear Nz;have d:=ah ((((d.af b3).af b2).af b1).af b0);have O3:=ah OA;have Og:=ah Oi;clear OA Oi b0 b1 b2 b3;obtain⟨c0,c1,c2,c3,c4,c5,c6,c7,c8,c9,Q,R,S,U,V,X,Y,Z,Ny,-⟩:=d.cj;rw[Og.o]at c0 c1 c2 c3 c4 c5 c6 c7 c8 c9 Q R S U V X Y Z Ny;rw[O3.o]at c0 c1 c2 c3;go_wp2_with fail;rw[← O3.o,← Og.o];refine (qX yp p yn (M+1) yA (some ⟨bp,op,none⟩) yc pc Pj Ph N9 RP z1 OZ).mono ?_;rintro e OH ⟨rfl,Nz⟩;obtain⟨d,N9,RP,NN,z,B,C,HO⟩:=lZ Nz d N9 RP NN z B C HO
   clear Nz;clear c0 c1 c2 c3 c4 c5 c6 c7 c8 c9 Q R S U V X Y Z Ny;clear u2 u3 u4 u5
   cases z1 with
   | false=>
    have NP:=NT.o rfl;have H:=ah NP.2
    have G:ai (Own OH v2.heap.size 9 1 Ax qx cx (Tr.strs (dY kd p l (l.take (k+1))))):=ah (by rw[NP.1];exact HO.o)
    have F:=ah (d.t8.tail.tail.tail);clear NP;obtain⟨c0,c1,c2,c3,c4,c5,c6,c7,c8,c9,Q,R,S,U,V,X,Y,Z,Ny,-⟩:=d.cj;go_wp2_with fail;go_roundw
    case rel=>exact⟨k+1,qx,Ax,cx,u,O,by omega,by omega,by go_num,rfl,H,G,F,⟨z,B,C⟩⟩
    case measure=>simp[intOf];omega
   | true=>
    obtain⟨c0,c1,c2,c3,c4,c5,c6,c7,c8,c9,Q,R,S,U,V,X,Y,Z,Ny,-⟩:=d.cj;go_wp2_with fail;refine (yS l n (some ⟨b,o,none⟩) c ⟨⟨⟨y1,y2⟩,⟨yp,ya,ys,yv⟩,yt⟩,⟨yA,yn,yc⟩,⟨yB,ym,yd⟩⟩ OH z2 (by rw[← Pb.o];exact decide_eq_decide.2 Iff.rfl) (by omega) NN N9 Oe).mono ?_;rintro e NA ⟨rfl,Nz⟩;obtain⟨d,N9,RP,NN,z,B,C,HO⟩:=lZ Nz d N9 RP NN z B C HO;clear Nz;clear c0 c1 c2 c3 c4 c5 c6 c7 c8 c9 Q R S U V X Y Z Ny
    cases z2 with
    | false=>
     have NP:=NT.o rfl;have H:=ah NP.2
     have G:ai (Own NA v2.heap.size 9 1 Ax qx cx (Tr.strs (dY kd p l (l.take (k+1))))):=ah (by rw[NP.1];exact HO.o)
     have F:=ah (d.t8.tail.tail.tail);clear NP;obtain⟨c0,c1,c2,c3,c4,c5,c6,c7,c8,c9,Q,R,S,U,V,X,Y,Z,Ny,-⟩:=d.cj;go_wp2_with fail;go_roundw
     case rel=>exact⟨k+1,qx,Ax,cx,u,O,by omega,by omega,by go_num,rfl,H,G,F,⟨z,B,C⟩⟩
     case measure=>simp[intOf];omega
    | true=>
     have f:=O0.o rfl;unfold kD JM numOf at f;dsimp only at f;rw[OP.o]at f;have hyl:yp.length=yn:=bM N9
     by_cases Oq:M+1<yn
     ·have f1:decide ((M:Int)+1<(yn:Int))=true:=aJ (by omega)
      have f2:decide (M+1<yn)=true:=aJ Oq;obtain⟨b2,o2,rfl,hg2,O4⟩:=gM N9 (by omega)
      have J:M+1<yp.length:=by omega
      have q1:=O4 (M+1) J;obtain⟨tx,Ox⟩:∃ s,s=yp[M+1]:=⟨_,rfl⟩;rw[← Ox]at q1;have f3:decide (¬M+1<yp.length∧kd=1)=false:=aM fun h=>h.1 J;rw[if_pos J,v_ J,← Ox,f3,Bool.or_false,if_neg (fun h=>h.1 J),Int.add_zero]at f;clear Ox O4 f3;obtain⟨NC,NJ,D,p1,p2,L⟩:=kJ NA v2.heap.size NA.heap.size rfl HO C tx (by omega);have H:=ah f.2
      have G:ai (Own D v2.heap.size 9 1 NC (qx+1) NJ (Tr.strs (dY kd p l (l.take (k+1))))):=ah (by rw[f.1];exact p2)
      have N7:=g.1
      have F:ai (Kept [(⟨v,0,none⟩,.int .i64 kd),(⟨v,1,none⟩,.bool u),(⟨v,2,none⟩,.int .i64 O),(⟨v,3,none⟩,.slice none 0 0),(⟨r,0,none⟩,.int .i64 0),(⟨r,1,none⟩,.bool false),(⟨r,2,none⟩,.int .i64 0),(⟨r,3,none⟩,.slice none 0 0)] w D):=by
       have h9:=d.t8.tail.tail.tail;refine⟨h9.below.trans (L.mono (aN g.2.1 (oZ N7))),fun x hx=>?_⟩;have h8:=h9.2 x hx
       have h7:x.1.block<v2.heap.size:=by
        have OD:=NG.o;have OG:=g.1
        simp at hx
        rcases hx with rfl | rfl | rfl | rfl | rfl | rfl | rfl | rfl <;> (dsimp only;omega)
       exact⟨cO h8.1 L.size,(L.cell (p:=x.1) h7).trans h8.2⟩
      have NE:ai (aA v D):=⟨cO z.1 L.size,fun j=>(L.frozen (p:=⟨v,j,none⟩) g.1).trans (z.2 j)⟩;have NF:ai (aA r D):=⟨cO B.1 L.size,fun j=>(L.frozen (p:=⟨r,j,none⟩) (Nat.lt_trans NG g.1)).trans (B.2 j)⟩;have NH:ai (Low v2.heap.size D):=aN C L.size;have NI:=ah p1;clear p1 p2 L N7 f;obtain⟨c0,c1,c2,c3,c4,c5,c6,c7,c8,c9,Q,R,S,U,V,X,Y,Z,Ny,-⟩:=d.cj;go_wp2_with (at_builtin;refine Lib.wpList_append_run _ rfl _ _ _ _ rfl _ _ rfl rfl _ _ NI ?_);go_roundw
      case rel=>exact⟨k+1,qx+1,NC,NJ,u,O,by omega,by omega,by go_num,rfl,H,G,F,⟨NE,NF,NH⟩⟩
      case measure=>simp[intOf];omega
     ·have f1:decide ((M:Int)+1<(yn:Int))=false:=aM (by omega)
      have f2:decide (M+1<yn)=false:=aM Oq
      have J:¬M+1<yp.length:=by omega
      rw[if_neg J]at f;clear Oq
      by_cases h1:kd=1
      ·have g1:((kd:Int)==1)=true:=by simp;omega
       have f5:decide (¬M+1<yp.length∧kd=1)=true:=aJ ⟨J,h1⟩;rw[if_neg (show ¬(kd=2∨kd=4) from by omega),f5,Bool.or_true,if_neg (show ¬(¬M+1<yp.length∧kd=3) from fun h=>by omega),Int.add_zero]at f;clear f5 h1;obtain⟨W9,t⟩:∃ W,W=NA.setCell ⟨v,1,none⟩ (.bool true):=⟨_,rfl⟩;have m9:=z.2 1
       have F:ai (Kept [(⟨v,0,none⟩,.int .i64 kd),(⟨v,1,none⟩,.bool true),(⟨v,2,none⟩,.int .i64 O),(⟨v,3,none⟩,.slice none 0 0),(⟨r,0,none⟩,.int .i64 0),(⟨r,1,none⟩,.bool false),(⟨r,2,none⟩,.int .i64 0),(⟨r,3,none⟩,.slice none 0 0)] w W9):=by
        have h9:=d.t8.tail.tail.tail;obtain⟨d0,d1,d2,d3,-⟩:=h9.cj
        have h8:=(h9.tail.tail.tail.tail).set (a:=⟨v,1,none⟩) g.2.1 (fun x hx=>by simp at hx;rcases hx with rfl | rfl | rfl | rfl <;> (have:=NG.o;dsimp only;omega)) (.bool true)
        rw[← t]at h8
        refine (((h8.af ?_).af ?_).af ?_).af ?_ <;> (rw[t];go_simp)
       have G:ai (Own W9 v2.heap.size 9 1 Ax qx cx (Tr.strs (dY kd p l (l.take (k+1))))):=ah (by rw[f.1,kR,t];exact HO.aT (a:=⟨v,1,none⟩) g.1 _)
       have Oj:ai (aA v W9∧aA r W9∧v2.heap.size≤W9.heap.size):=by
        unfold ai;rw[t];exact⟨z.set _ _,B.set _ _,by have h:=C.o;unfold Low at h;simpa [World.setCell] using h⟩
       have H:=ah f.2;have NU:=ah t;clear t f;obtain⟨c0,c1,c2,c3,c4,c5,c6,c7,c8,c9,Q,R,S,U,V,X,Y,Z,Ny,-⟩:=d.cj;go_wp2_with fail;rw[← NU.o];go_roundw
       case rel=>exact⟨k+1,qx,Ax,cx,true,O,by omega,by omega,by go_num,rfl,H,G,F,Oj⟩
       case measure=>simp[intOf];omega
      have f5:decide (¬M+1<yp.length∧kd=1)=false:=aM fun h=>h1 h.2;rw[f5,Bool.or_false]at f
      have g1:((kd:Int)==1)=false:=by simp;omega
      by_cases h3:kd=3
      ·have g3:((kd:Int)==3)=true:=by simp;omega
       have g2:((kd:Int)==2)=false:=by simp;omega
       rw[if_neg (show ¬(kd=2∨kd=4) from by omega),if_pos ⟨J,h3⟩]at f
       have fs:IntKind.i64.wrap (O+yv)=O+yv:=by
        rw[iN];have h7:=OL.o;have h8:=OJ.o;omega
       have g4:((kd:Int)==4)=false:=by simp;omega
       clear f5 h3;obtain⟨W9,t⟩:∃ W,W=NA.setCell ⟨v,2,none⟩ (.int .i64 (O+yv)):=⟨_,rfl⟩;have m9:=z.2 2
       have F:ai (Kept [(⟨v,0,none⟩,.int .i64 kd),(⟨v,1,none⟩,.bool u),(⟨v,2,none⟩,.int .i64 (O+yv)),(⟨v,3,none⟩,.slice none 0 0),(⟨r,0,none⟩,.int .i64 0),(⟨r,1,none⟩,.bool false),(⟨r,2,none⟩,.int .i64 0),(⟨r,3,none⟩,.slice none 0 0)] w W9):=by
        have h9:=d.t8.tail.tail.tail;obtain⟨d0,d1,d2,d3,-⟩:=h9.cj
        have h8:=(h9.tail.tail.tail.tail).set (a:=⟨v,2,none⟩) g.2.1 (fun x hx=>by simp at hx;rcases hx with rfl | rfl | rfl | rfl <;> (have:=NG.o;dsimp only;omega)) (.int .i64 (O+yv))
        rw[← t]at h8
        refine (((h8.af ?_).af ?_).af ?_).af ?_ <;> (rw[t];go_simp)
       have G:ai (Own W9 v2.heap.size 9 1 Ax qx cx (Tr.strs (dY kd p l (l.take (k+1))))):=ah (by rw[f.1,kR,t];exact HO.aT (a:=⟨v,2,none⟩) g.1 _)
       have Oj:ai (aA v W9∧aA r W9∧v2.heap.size≤W9.heap.size):=by
        unfold ai;rw[t];exact⟨z.set _ _,B.set _ _,by have h:=C.o;unfold Low at h;simpa [World.setCell] using h⟩
       have H:=ah f.2;have NU:=ah t;clear t f;obtain⟨c0,c1,c2,c3,c4,c5,c6,c7,c8,c9,Q,R,S,U,V,X,Y,Z,Ny,-⟩:=d.cj;go_wp2_with fail;rw[← NU.o];go_roundw
       case rel=>exact⟨k+1,qx,Ax,cx,u,(O+yv),by omega,by omega,by go_num,rfl,H,G,F,Oj⟩
       case measure=>simp[intOf];omega
      rw[if_neg (show ¬(¬M+1<yp.length∧kd=3) from fun h=>h3 h.2),Int.add_zero]at f
      have g3:((kd:Int)==3)=false:=by simp;omega
      clear f5
      by_cases h2:kd=2
      ·have g2:((kd:Int)==2)=true:=by simp;omega
       have g4:((kd:Int)==4)=false:=by simp;omega
       rw[if_pos (.inl h2)]at f;clear h2;obtain⟨NC,NJ,D,p1,p2,L⟩:=kJ NA v2.heap.size NA.heap.size rfl HO C ys (by omega);have H:=ah f.2
       have G:ai (Own D v2.heap.size 9 1 NC (qx+1) NJ (Tr.strs (dY kd p l (l.take (k+1))))):=ah (by rw[f.1];exact p2)
       have N7:=g.1
       have F:ai (Kept [(⟨v,0,none⟩,.int .i64 kd),(⟨v,1,none⟩,.bool u),(⟨v,2,none⟩,.int .i64 O),(⟨v,3,none⟩,.slice none 0 0),(⟨r,0,none⟩,.int .i64 0),(⟨r,1,none⟩,.bool false),(⟨r,2,none⟩,.int .i64 0),(⟨r,3,none⟩,.slice none 0 0)] w D):=by
        have h9:=d.t8.tail.tail.tail;refine⟨h9.below.trans (L.mono (aN g.2.1 (oZ N7))),fun x hx=>?_⟩;have h8:=h9.2 x hx
        have h7:x.1.block<v2.heap.size:=by
         have OD:=NG.o;have OG:=g.1
         simp at hx
         rcases hx with rfl | rfl | rfl | rfl | rfl | rfl | rfl | rfl <;> (dsimp only;omega)
        exact⟨cO h8.1 L.size,(L.cell (p:=x.1) h7).trans h8.2⟩
       have NE:ai (aA v D):=⟨cO z.1 L.size,fun j=>(L.frozen (p:=⟨v,j,none⟩) g.1).trans (z.2 j)⟩;have NF:ai (aA r D):=⟨cO B.1 L.size,fun j=>(L.frozen (p:=⟨r,j,none⟩) (Nat.lt_trans NG g.1)).trans (B.2 j)⟩;have NH:ai (Low v2.heap.size D):=aN C L.size;have NI:=ah p1;clear p1 p2 L N7 f;obtain⟨c0,c1,c2,c3,c4,c5,c6,c7,c8,c9,Q,R,S,U,V,X,Y,Z,Ny,-⟩:=d.cj;go_wp2_with (at_builtin;refine Lib.wpList_append_run _ rfl _ _ _ _ rfl _ _ rfl rfl _ _ NI ?_);go_roundw
       case rel=>exact⟨k+1,qx+1,NC,NJ,u,O,by omega,by omega,by go_num,rfl,H,G,F,⟨NE,NF,NH⟩⟩
       case measure=>simp[intOf];omega
      by_cases h4:kd=4
      ·have g4:((kd:Int)==4)=true:=by simp;omega
       have g2:((kd:Int)==2)=false:=by simp;omega
       rw[if_pos (.inr h4)]at f;clear h4;obtain⟨NC,NJ,D,p1,p2,L⟩:=kJ NA v2.heap.size NA.heap.size rfl HO C ys (by omega);have H:=ah f.2
       have G:ai (Own D v2.heap.size 9 1 NC (qx+1) NJ (Tr.strs (dY kd p l (l.take (k+1))))):=ah (by rw[f.1];exact p2)
       have N7:=g.1
       have F:ai (Kept [(⟨v,0,none⟩,.int .i64 kd),(⟨v,1,none⟩,.bool u),(⟨v,2,none⟩,.int .i64 O),(⟨v,3,none⟩,.slice none 0 0),(⟨r,0,none⟩,.int .i64 0),(⟨r,1,none⟩,.bool false),(⟨r,2,none⟩,.int .i64 0),(⟨r,3,none⟩,.slice none 0 0)] w D):=by
        have h9:=d.t8.tail.tail.tail;refine⟨h9.below.trans (L.mono (aN g.2.1 (oZ N7))),fun x hx=>?_⟩;have h8:=h9.2 x hx
        have h7:x.1.block<v2.heap.size:=by
         have OD:=NG.o;have OG:=g.1
         simp at hx
         rcases hx with rfl | rfl | rfl | rfl | rfl | rfl | rfl | rfl <;> (dsimp only;omega)
        exact⟨cO h8.1 L.size,(L.cell (p:=x.1) h7).trans h8.2⟩
       have NE:ai (aA v D):=⟨cO z.1 L.size,fun j=>(L.frozen (p:=⟨v,j,none⟩) g.1).trans (z.2 j)⟩;have NF:ai (aA r D):=⟨cO B.1 L.size,fun j=>(L.frozen (p:=⟨r,j,none⟩) (Nat.lt_trans NG g.1)).trans (B.2 j)⟩;have NH:ai (Low v2.heap.size D):=aN C L.size;have NI:=ah p1;clear p1 p2 L N7 f;obtain⟨c0,c1,c2,c3,c4,c5,c6,c7,c8,c9,Q,R,S,U,V,X,Y,Z,Ny,-⟩:=d.cj;go_wp2_with (at_builtin;refine Lib.wpList_append_run _ rfl _ _ _ _ rfl _ _ rfl rfl _ _ NI ?_);go_roundw
       case rel=>exact⟨k+1,qx+1,NC,NJ,u,O,by omega,by omega,by go_num,rfl,H,G,F,⟨NE,NF,NH⟩⟩
       case measure=>simp[intOf];omega
      have g2:((kd:Int)==2)=false:=by simp;omega
      have g4:((kd:Int)==4)=false:=by simp;omega
      rw[if_neg (fun h=>h.elim h2 h4),kR]at f;have H:=ah f.2
      have G:ai (Own NA v2.heap.size 9 1 Ax qx cx (Tr.strs (dY kd p l (l.take (k+1))))):=ah (by rw[f.1];exact HO.o)
      have F:=ah (d.t8.tail.tail.tail);clear f;obtain⟨c0,c1,c2,c3,c4,c5,c6,c7,c8,c9,Q,R,S,U,V,X,Y,Z,Ny,-⟩:=d.cj;go_wp2_with fail;go_roundw
      case rel=>exact⟨k+1,qx,Ax,cx,u,O,by omega,by omega,by go_num,rfl,H,G,F,⟨z,B,C⟩⟩
      case measure=>simp[intOf];omega
  ·obtain rfl:k=n:=by omega
   have e9:l.take k=l:=eO (by rw[HL.o.len];exact bG);have OW:=ah (yR (dY kd p l l) m qx q Ax cx wr HM HQ.1 HQ.2 (by omega) (by have h:=HO.o;rw[e9]at h;exact h.rd))
   have Pg:u=on:=by rw[← OU.o,← HT.o.1,e9]
   have Pf:O=N:=by rw[← OQ.o,← HT.o.2,e9]
   subst Pg;subst Pf;clear e9;go_wp2_with fail;refine OW.mono ?_;rintro e w4 ⟨A',c',rfl,OE,Oc⟩;have OV:=ah OE.o;have O1:=ah (N8.later Oc);have O7:=HF.1.later Oc;have NW:=HF.2.1.later Oc;have NR:r<wr.heap.size∧v<wr.heap.size:=⟨HF.2.1.1,HF.1.1⟩;have Ow:=OX.o;have Ob:=OY.o;have N7:=g.2.1;obtain⟨v0,v1',v2',v3',r0,r1,r2,r3,-⟩:=O1.cj;have m3:=O7.2 3;have o0:=NW.2 0;have o1:=NW.2 1;have o2:=NW.2 2;have o3:=NW.2 3;obtain⟨W9,t⟩:∃ W,W=((((w4.setCell ⟨v,3,none⟩ (.slice A' q c')).setCell ⟨r,0,none⟩ (.int .i64 kd)).setCell ⟨r,1,none⟩ (.bool u)).setCell ⟨r,2,none⟩ (.int .i64 O)).setCell ⟨r,3,none⟩ (.slice A' q c'):=⟨_,rfl⟩
   have OI:ai (av w W9):=by
    unfold ai;rw[t];exact ((((O1.below.setCell (p:=⟨v,3,none⟩) N7 _).setCell (p:=⟨r,0,none⟩) Ob _).setCell (p:=⟨r,1,none⟩) Ob _).setCell (p:=⟨r,2,none⟩) Ob _).setCell (p:=⟨r,3,none⟩) Ob _
   have OT:ai (Own W9 wr.heap.size 9 1 A' q c' (Tr.strs m)):=by
    unfold ai;rw[t];exact ((((OV.aT (a:=⟨v,3,none⟩) NR.2 _).aT (a:=⟨r,0,none⟩) NR.1 _).aT (a:=⟨r,1,none⟩) NR.1 _).aT (a:=⟨r,2,none⟩) NR.1 _).aT (a:=⟨r,3,none⟩) NR.1 _
   have l0:W9.cell? ⟨r,0,none⟩=some (.int .i64 kd):=by rw[t];go_simp
   have l1:W9.cell? ⟨r,1,none⟩=some (.bool u):=by rw[t];go_simp
   have l2:W9.cell? ⟨r,2,none⟩=some (.int .i64 O):=by rw[t];go_simp
   have l3:W9.cell? ⟨r,3,none⟩=some (.slice A' q c'):=by rw[t];go_simp
   have NU:=ah t;clear t OE Oc O7 NW Ob N7 NR;go_wp2_with fail;rw[← NU.o];refine bodyPost_ret (v:=.agg #[.int .i64 kd,.bool u,.int .i64 O,.slice A' q c']) (by simp[results,Tryz.results34,go_sem,l0,l1,l2,l3]) rfl ⟨A',c',rfl,OT.rd,OI⟩
end Cs
namespace Cs
open Tr Cx Sp Rw Classical
noncomputable def iU (s:SM) (c:List S3):List jw:=s.ev.filter fun x=>fH c x.ev.d.1 x.ev.d.2
section
variable {s:SM} {c:List S3} {p:List ByteArray}
theorem qK (a:aH c) {x:jw} : x∈iU s c↔x∈s.ev∧aD c x.ev.d.1 x.ev.d.2=true:=by
 unfold iU;rw[qR,nI a]
theorem Nc (h:rV s) (g:aH c) (x:jw):KE (iU s c) x↔mR s.evs c x.ev:=by
 unfold KE mR SM.evs;refine and_congr Iff.rfl ⟨fun b y a d e=>?_,fun b y a d=>?_⟩
 ·obtain⟨z,j,rfl⟩:=dH.1 a
  exact b z ((qK g).2 ⟨j,d⟩) (by rw[nI (h.sr z.ev a)];exact e)
 ·obtain⟨e,i⟩:=(qK g).1 a
  have f:y.ev∈s.ev.map jw.ev:=dH.2 ⟨y,e,rfl⟩;exact b y.ev f i (by rw[← nI (h.sr y.ev f)];exact d)
theorem AX (h:rV s) (a:aH c) (x:jw):je (iU s c) p x=true↔p <+: x.ev.o.path∧mR s.evs c x.ev:=by
 unfold je;rw[Bool.and_eq_true,eG,eG,Nc h a]
theorem Gb (h:rV s) (e:aH c):(Ef s.evs c).filter (fun y=>decide (p <+: y.o.path))=((iU s c).filter (je (iU s c) p)).map jw.ev:=by
 unfold Ef iU SM.evs;rw[List.filter_map,List.filter_map,List.filter_filter,List.filter_filter]
 congr 1
 refine List.filter_congr fun x hx=>?_;have f:=AX (p:=p) h e x;rw[jI];simp only[Function.comp,Bool.and_eq_true,eG];have g:je (s.ev.filter fun x=>fH c x.ev.d.1 x.ev.d.2) p x=true↔p <+: x.ev.o.path∧mR s.evs c x.ev:=f;rw[g,nI e];show (p <+: x.ev.o.path∧aD c x.ev.d.1 x.ev.d.2=true∧mR s.evs c x.ev)↔_;constructor
 ·rintro⟨a,b,d⟩;exact⟨⟨a,d⟩,b⟩
 ·rintro⟨⟨a,d⟩,b⟩;exact⟨a,b,d⟩
theorem F5 (h:rV s) (j:aH c) {P:Ev→Prop} : (∃ y∈Ef s.evs c,p <+: y.o.path∧P y)↔∃ x∈(iU s c).filter (je (iU s c) p),P x.ev:=by
 have e:=Gb (p:=p) h j;constructor
 ·rintro⟨y,m,b,f⟩
  have a:y∈(Ef s.evs c).filter (fun y=>decide (p <+: y.o.path)):=qR.2 ⟨m,aJ b⟩;rw[e]at a;obtain⟨x,d,rfl⟩:=dH.1 a;exact⟨x,d,f⟩
 ·rintro⟨x,d,b⟩
  have a:x.ev∈((iU s c).filter (je (iU s c) p)).map jw.ev:=dH.2 ⟨x,d,rfl⟩;rw[← e]at a;obtain⟨g,i⟩:=qR.1 a;exact⟨x.ev,g,jH i,b⟩
theorem wY (h:rV s) (a:aH c) (i:f_ p) (g:bD p≠5) {x:jw} (j:x∈(iU s c).filter (je (iU s c) p)):¬p.length<x.ev.o.path.length:=by
 obtain⟨b,d⟩:=qR.1 j;have e:=((AX h a x).1 d).1;have f:=nV h.made (dH.2 ⟨x,((qK a).1 b).1,rfl⟩) i g e;rw[← f];omega
theorem Hq (h:rV s) (d:aH c) (_hp:f_ p) (n:bD p=5) {x:jw} (q:x∈(iU s c).filter (je (iU s c) p)):p.length<x.ev.o.path.length:=by
 obtain⟨e,f⟩:=qR.1 q;obtain⟨a,g⟩:=(AX h d x).1 f;refine Nat.lt_of_not_le fun i=>?_;have j:p=x.ev.o.path:=a.eq_of_length (Nat.le_antisymm a.length_le i);have b:=(h.made.ok x.ev (dH.2 ⟨x,((qK d).1 e).1,rfl⟩)).act;rw[← j,n]at b;have m:=g.1;unfold dI at b;unfold brings at m;omega
end
theorem zQ {kd:Nat} {p:List ByteArray} {l:List jw} {t:ByteArray} : t∈dY kd p l l↔∃ x∈l.filter (je l p),t∈kD kd p x:=by
 unfold dY;rw[ol]
theorem F3 {s:SM} (h:rV s) {i:Nat} (hi:i<3) {p:List ByteArray} (j:f_ p) {v:Vw} (A:uh (aI (s.know i).k.1 p) (bD p) v) :
  II (bD p) p (iU s (s.know i).k.2) (iU s (s.know i).k.2)=v.on∧qN (bD p) p (iU s (s.know i).k.2) (iU s (s.know i).k.2)=v.n∧lF (dY (bD p) p (iU s (s.know i).k.2) (iU s (s.know i).k.2)) v.l:=by
 have w:=h.knows i hi;have m:=w.right.ctx;obtain⟨c,e⟩:∃ c,c=(s.know i).k.2:=⟨_,rfl⟩;have B:au 5 (aI (s.know i).k.1 p):=cB w.right.tree p;rw[← e]at m ⊢;refine⟨?_,?_,?_⟩
 ·rw[A.on,jI,eG]
  unfold II;rw[List.any_eq_true];unfold JM;constructor
  ·rintro⟨x,b,f⟩
   have g:=jH f;refine⟨g.2,?_⟩
   have r:=(zX h.made w j g.2).2 (by
    rw[← e];obtain⟨y,C,u,_⟩:=(F5 (P:=fun _=>True) h m).2 ⟨x,b,trivial⟩
    exact⟨y,C,u⟩)
   exact List.length_pos_iff.2 r
  ·rintro⟨f,g⟩
   obtain⟨y,C,r⟩:=(zX h.made w j f).1 (List.length_pos_iff.1 g);rw[← e]at C;obtain⟨x,b,_⟩:=(F5 (P:=fun _=>True) h m).1 ⟨y,C,r,trivial⟩;exact⟨x,b,aJ ⟨wY h m j (by omega) b,f⟩⟩
 ·rw[A.n]
  by_cases r:bD p=3
  ·rw[if_pos r,JY h.made w j r,← e,Gb h m,List.map_map]
   unfold qN
   congr 1
   refine List.map_congr_left fun x b=>?_;unfold numOf;rw[if_pos ⟨wY h m j (by omega) b,r⟩];rfl
  ·rw[if_neg r]
   unfold qN
   have u:((iU s c).filter (je (iU s c) p)).map (numOf (bD p) p)=((iU s c).filter (je (iU s c) p)).map (fun _=>0):=List.map_congr_left fun x _=>by
    unfold numOf;rw[if_neg (fun z=>r z.2)]
   rw[u]
   induction (iU s c).filter (je (iU s c) p)with
   | nil=>rfl
   | cons a l J=>rw[List.map_cons,om,J];rfl
 ·have F:bD p=2∨bD p=4∨bD p=5∨¬(bD p=2∨bD p=4∨bD p=5):=by omega
  have q:∀ (P:ByteArray→Ev→Prop) (t:ByteArray),(∀ x∈(iU s c).filter (je (iU s c) p),(t∈kD (bD p) p x↔P t x.ev))→((∃ y∈Ef s.evs c,p <+: y.o.path∧P t y)↔t∈dY (bD p) p (iU s c) (iU s c)):=fun P t f=>by
   rw[F5 (P:=P t) h m,zQ];exact⟨fun ⟨x,b,g⟩=>⟨x,b,(f x b).2 g⟩,fun ⟨x,b,g⟩=>⟨x,b,(f x b).1 g⟩⟩
  rcases F with g | u | z | D
  ·rw[A.l2 g]
   refine⟨Ez (d:=4) B,fun t=>?_⟩;rw[Kb h.made w j g,← e];refine q (fun t y=>y.o.s=t) t fun x b=>?_;unfold kD;rw[if_neg (wY h m j (by omega) b),if_pos (.inl g),eX];exact eq_comm
  ·refine⟨(A.l4 u).rise,fun t=>?_⟩
   rw[(A.l4 u).mem,Ka h.made w j u,← e];refine q (fun t y=>y.o.s=t) t fun x b=>?_;unfold kD;rw[if_neg (wY h m j (by omega) b),if_pos (.inr u),eX];exact eq_comm
  ·rw[A.l5 z]
   refine⟨Hu (d:=4) B,fun t=>?_⟩;rw[JZ h.made w j z,← e];refine q (fun t y=>y.o.path[p.length]?=some t) t fun x b=>?_;unfold kD;rw[if_pos (Hq h m j z b),Option.mem_toList]
  ·rw[A.l0 D]
   refine⟨List.Pairwise.nil,fun t=>?_⟩;rw[zQ];constructor
   ·intro f;cases f
   ·rintro⟨x,b,f⟩
    unfold kD at f;rw[if_neg (wY h m j (fun z=>D (.inr (.inr z))) b),if_neg (fun G=>D (G.elim .inl fun H=>.inr (.inl H)))]at f
    cases f
end Cs
namespace Cs
open Tr Cx Sp Rw Classical
theorem Ls (x:T) (kd:Nat):∃ v,uh x kd v∧v.l.length≤nodes x:=by
 have hl:(jd x).length≤x.ks.length:=by unfold jd;rw[eP];exact List.length_filter_le _ _
 have hn:x.es.length≤nodes x∧x.ks.length≤nodes x:=by
  have f:=bE x.es x.ks;rw[T.eta]at f;omega
 obtain⟨m,g,d⟩:=G8 (x.es.map E.s);rw[eP]at d
 by_cases a:kd=2
 ·exact⟨⟨kd,decide (kd=1∧0<x.es.length),if kd=3 then g_ x.es else 0,jd x⟩,⟨rfl,rfl,rfl,fun _=>rfl,fun h=>absurd h (by omega),fun h=>absurd h (by omega),fun h=>absurd (.inl a) h⟩,by show (jd x).length≤_;omega⟩
 by_cases b:kd=4
 ·exact⟨⟨kd,decide (kd=1∧0<x.es.length),if kd=3 then g_ x.es else 0,m⟩,⟨rfl,rfl,rfl,fun h=>absurd h a,fun _=>g,fun h=>absurd h (by omega),fun h=>absurd (.inr (.inl b)) h⟩,by show m.length≤_;omega⟩
 by_cases e:kd=5
 ·exact⟨⟨kd,decide (kd=1∧0<x.es.length),if kd=3 then g_ x.es else 0,keysOf x.ks⟩,⟨rfl,rfl,rfl,fun h=>absurd h a,fun h=>absurd h b,fun _=>rfl,fun h=>absurd (.inr (.inr e)) h⟩,by show (keysOf x.ks).length≤_;unfold keysOf;rw[eP];omega⟩
 ·exact⟨⟨kd,decide (kd=1∧0<x.es.length),if kd=3 then g_ x.es else 0,[]⟩,⟨rfl,rfl,rfl,fun h=>absurd h a,fun h=>absurd h b,fun h=>absurd h e,fun _=>rfl⟩,by simp⟩
theorem L9 {g:Nat} {v0 w:World} {s:SM} (m:pK g v0 s w) (j:rV s) (hn:s.evs.length≤1000) {y:jw} (b:y∈s.ev):bA y.ev.seen=true∧y.ev.seen.length=y.q.n∧y.q.n≤100000∧y.p.n≤1000:=by
 have f:y.ev∈s.evs:=dH.2 ⟨y,b,rfl⟩;have i:=j.sr y.ev f
 have r:=FW i (l:=s.evs.map Ev.d) (fun a n h=>by
  obtain⟨z,u,e⟩:=j.made.seen y.ev f a n h
  exact dH.2 ⟨z,u,e⟩)
 rw[eP]at r;have t:=(m.seen y b).2;have h5:=(m.path y b).2;exact⟨aJ i,t,by omega,by omega⟩
theorem Mq {s:SM} (b:rV s) {y:jw} (d:y∈s.ev) : -1099511627776≤y.ev.o.n∧y.ev.o.n≤1099511627776:=by
 have h:=b.made.ok y.ev (dH.2 ⟨y,d,rfl⟩)
 by_cases a:y.ev.o.act=5
 ·exact h.num a
 ·rw[h.zero a];omega
end Cs
end
end Go.Proofs.YtgeafpaognhokaaGreat
