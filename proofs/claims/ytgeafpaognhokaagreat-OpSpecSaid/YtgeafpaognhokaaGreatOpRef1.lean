/- Changes: the document's kinds, paths, acts. -/
import Derived.Test.YtgeafpaognhokaaGreatG00
import Derived.Test.YtgeafpaognhokaaGreatG50
import Derived.Test.YtgeafpaognhokaaGreatG20
set_option maxRecDepth 100000
set_option maxHeartbeats 4000000
namespace Go.Proofs.YtgeafpaognhokaaGreat
open ChangeShapes WideShapes ChangeAt RowKit
namespace Cs
open Tr Cx Sp Rw Classical
theorem Gh {c:UInt8} {l:List UInt8} (h:¬c=102∧¬c=115∧¬c=99∧¬c=114∧¬c=109):d_ ⟨⟨c::l⟩⟩=0:=by
 unfold d_
 split
 ·rename_i a;injection a with a;exact absurd a h.1
 ·rename_i a;injection a with a;exact absurd a h.2.1
 ·rename_i a;injection a with a;exact absurd a h.2.2.1
 ·rename_i a;injection a with a;exact absurd a h.2.2.2.1
 ·rename_i a;injection a with a;exact absurd a h.2.2.2.2
 ·rfl
theorem kL (key:ByteArray) (w:World) :
  Calls Tryz.prog 14 #[.string key] w fun e w'=>e = .returned (.int .i64 (d_ key))∧av w w':=by
 obtain⟨⟨l⟩⟩:=key
 cases l with
 | nil=>
  go_enter Tryz.func14,Tryz.ntmps14;go_wp2_with fail
  go_loopw [7] (fun i wr=>∃ (k:Nat),k≤5∧i = .int .i64 k∧ai (av w wr)) (fun i _=>5-(intOf i).toNat)
  case atStart=>exact⟨0,by omega,rfl,bN⟩
  case round=>
   obtain⟨k,t,rfl,g⟩:=hrel
   by_cases q:k<5
   ·go_wp2_with fail
    go_quiet (fail)
    go_wp2_with fail;go_roundw
    case rel=>exact⟨k+1,by omega,by go_num,aK g _⟩
    case measure=>simp[intOf];omega
   ·obtain rfl:k=5:=by omega
    go_wp2_with fail;go_ret;exact⟨rfl,g⟩
 | cons c l=>
  obtain⟨n,r⟩:∃ n,n=d_ ⟨⟨c::l⟩⟩:=⟨_,rfl⟩;rw[← r];have m:=ah r
  have f:ai (0<(ByteArray.mk ⟨c::l⟩).size):=by show 0<(c::l).length;simp
  have f0:decide ((0:Int)<((ByteArray.mk ⟨c::l⟩).size:Int))=true:=aJ (by show (0:Int)<((c::l).length:Int);simp);clear r;go_enter Tryz.func14,Tryz.ntmps14;go_wp2_with fail
  go_loopw [7] (fun i wr=>∃ (k:Nat),k≤5∧i = .int .i64 k∧ai ((0<k→¬c=102)∧(1<k→¬c=115)∧(2<k→¬c=99)∧(3<k→¬c=114)∧(4<k→¬c=109))∧ai (av w wr)) (fun i _=>5-(intOf i).toNat)
  case atStart=>exact⟨0,by omega,rfl,⟨fun h=>absurd h (by omega),fun h=>absurd h (by omega),fun h=>absurd h (by omega),fun h=>absurd h (by omega),fun h=>absurd h (by omega)⟩,bN⟩
  case round=>
   obtain⟨k,t,rfl,a,g⟩:=hrel
   by_cases q:k<5
   ·have s:k=0∨k=1∨k=2∨k=3∨k=4:=by omega
    rcases s with rfl | rfl | rfl | rfl | rfl
    ·by_cases d:c=102
     ·subst d
      obtain rfl:n=1:=m.o;have j:((((ByteArray.mk ⟨102::l⟩)[0]'f.o).toNat:Int)==(((ByteArray.mk #[102,115,99,114,109])[0]'(by decide)).toNat:Int))=true:=rfl;go_wp2_with fail
      go_quiet (fail)
      go_wp2_with fail;go_ret;exact⟨rfl,aK g _⟩
     ·have b:ai ((0<1→¬c=102)∧(1<1→¬c=115)∧(2<1→¬c=99)∧(3<1→¬c=114)∧(4<1→¬c=109)):=⟨fun _=>d,fun h=>absurd h (by omega),fun h=>absurd h (by omega),fun h=>absurd h (by omega),fun h=>absurd h (by omega)⟩
      have j:((((ByteArray.mk ⟨c::l⟩)[0]'f.o).toNat:Int)==(((ByteArray.mk #[102,115,99,114,109])[0]'(by decide)).toNat:Int))=false:=by
       rw[gP];intro h;have p:((c.toNat:Nat):Int)=102:=h;exact d (UInt8.toNat_inj.1 (by show c.toNat=102;omega))
      clear d;go_wp2_with fail
      go_quiet (fail)
      go_wp2_with fail;go_roundw
      case rel=>exact⟨1,by omega,by go_num,b,aK g _⟩
      case measure=>simp[intOf]
    ·by_cases d:c=115
     ·subst d
      obtain rfl:n=2:=m.o;have j:((((ByteArray.mk ⟨115::l⟩)[0]'f.o).toNat:Int)==(((ByteArray.mk #[102,115,99,114,109])[1]'(by decide)).toNat:Int))=true:=rfl;go_wp2_with fail
      go_quiet (fail)
      go_wp2_with fail;go_ret;exact⟨rfl,aK g _⟩
     ·have b:ai ((0<2→¬c=102)∧(1<2→¬c=115)∧(2<2→¬c=99)∧(3<2→¬c=114)∧(4<2→¬c=109)):=⟨fun _=>a.1 (by omega),fun _=>d,fun h=>absurd h (by omega),fun h=>absurd h (by omega),fun h=>absurd h (by omega)⟩
      have j:((((ByteArray.mk ⟨c::l⟩)[0]'f.o).toNat:Int)==(((ByteArray.mk #[102,115,99,114,109])[1]'(by decide)).toNat:Int))=false:=by
       rw[gP];intro h;have p:((c.toNat:Nat):Int)=115:=h;exact d (UInt8.toNat_inj.1 (by show c.toNat=115;omega))
      clear d;go_wp2_with fail
      go_quiet (fail)
      go_wp2_with fail;go_roundw
      case rel=>exact⟨2,by omega,by go_num,b,aK g _⟩
      case measure=>simp[intOf]
    ·by_cases d:c=99
     ·subst d
      obtain rfl:n=3:=m.o;have j:((((ByteArray.mk ⟨99::l⟩)[0]'f.o).toNat:Int)==(((ByteArray.mk #[102,115,99,114,109])[2]'(by decide)).toNat:Int))=true:=rfl;go_wp2_with fail
      go_quiet (fail)
      go_wp2_with fail;go_ret;exact⟨rfl,aK g _⟩
     ·have b:ai ((0<3→¬c=102)∧(1<3→¬c=115)∧(2<3→¬c=99)∧(3<3→¬c=114)∧(4<3→¬c=109)):=⟨fun _=>a.1 (by omega),fun _=>a.2.1 (by omega),fun _=>d,fun h=>absurd h (by omega),fun h=>absurd h (by omega)⟩
      have j:((((ByteArray.mk ⟨c::l⟩)[0]'f.o).toNat:Int)==(((ByteArray.mk #[102,115,99,114,109])[2]'(by decide)).toNat:Int))=false:=by
       rw[gP];intro h;have p:((c.toNat:Nat):Int)=99:=h;exact d (UInt8.toNat_inj.1 (by show c.toNat=99;omega))
      clear d;go_wp2_with fail
      go_quiet (fail)
      go_wp2_with fail;go_roundw
      case rel=>exact⟨3,by omega,by go_num,b,aK g _⟩
      case measure=>simp[intOf]
    ·by_cases d:c=114
     ·subst d
      obtain rfl:n=4:=m.o;have j:((((ByteArray.mk ⟨114::l⟩)[0]'f.o).toNat:Int)==(((ByteArray.mk #[102,115,99,114,109])[3]'(by decide)).toNat:Int))=true:=rfl;go_wp2_with fail
      go_quiet (fail)
      go_wp2_with fail;go_ret;exact⟨rfl,aK g _⟩
     ·have b:ai ((0<4→¬c=102)∧(1<4→¬c=115)∧(2<4→¬c=99)∧(3<4→¬c=114)∧(4<4→¬c=109)):=⟨fun _=>a.1 (by omega),fun _=>a.2.1 (by omega),fun _=>a.2.2.1 (by omega),fun _=>d,fun h=>absurd h (by omega)⟩
      have j:((((ByteArray.mk ⟨c::l⟩)[0]'f.o).toNat:Int)==(((ByteArray.mk #[102,115,99,114,109])[3]'(by decide)).toNat:Int))=false:=by
       rw[gP];intro h;have p:((c.toNat:Nat):Int)=114:=h;exact d (UInt8.toNat_inj.1 (by show c.toNat=114;omega))
      clear d;go_wp2_with fail
      go_quiet (fail)
      go_wp2_with fail;go_roundw
      case rel=>exact⟨4,by omega,by go_num,b,aK g _⟩
      case measure=>simp[intOf]
    ·by_cases d:c=109
     ·subst d
      obtain rfl:n=5:=m.o;have j:((((ByteArray.mk ⟨109::l⟩)[0]'f.o).toNat:Int)==(((ByteArray.mk #[102,115,99,114,109])[4]'(by decide)).toNat:Int))=true:=rfl;go_wp2_with fail
      go_quiet (fail)
      go_wp2_with fail;go_ret;exact⟨rfl,aK g _⟩
     ·have b:ai ((0<5→¬c=102)∧(1<5→¬c=115)∧(2<5→¬c=99)∧(3<5→¬c=114)∧(4<5→¬c=109)):=⟨fun _=>a.1 (by omega),fun _=>a.2.1 (by omega),fun _=>a.2.2.1 (by omega),fun _=>a.2.2.2.1 (by omega),fun _=>d⟩
      have j:((((ByteArray.mk ⟨c::l⟩)[0]'f.o).toNat:Int)==(((ByteArray.mk #[102,115,99,114,109])[4]'(by decide)).toNat:Int))=false:=by
       rw[gP];intro h;have p:((c.toNat:Nat):Int)=109:=h;exact d (UInt8.toNat_inj.1 (by show c.toNat=109;omega))
      clear d;go_wp2_with fail
      go_quiet (fail)
      go_wp2_with fail;go_roundw
      case rel=>exact⟨5,by omega,by go_num,b,aK g _⟩
      case measure=>simp[intOf]
   ·obtain rfl:k=5:=by omega
    obtain rfl:n=0:=by
     rw[m.o];exact Gh ⟨a.1 (by omega),a.2.1 (by omega),a.2.2.1 (by omega),a.2.2.2.1 (by omega),a.2.2.2.2 (by omega)⟩
    go_wp2_with fail;go_ret;exact⟨rfl,g⟩
theorem xM (a:Int) (k:Nat) (w:World) (z:Bool) (b:decide (dI a k)=z) :
  Calls Tryz.prog 43 #[.int .i64 a,.int .i64 k] w fun e w'=>e = .returned (.bool z)∧av w w':=by
 by_cases d:a=1
 ·subst d
  have c:((k:Int)==1)=z:=by
   rw[← b,jI,beq_iff_eq,eG];unfold dI;omega
  clear b;go_enter Tryz.func43,Tryz.ntmps43;go_wp2_with fail;go_ret;exact⟨rfl,bN⟩
 have f1:(a==1)=false:=by simpa using d
 by_cases f:a=2
 ·subst f
  have c:((k:Int)==1)=z:=by
   rw[← b,jI,beq_iff_eq,eG];unfold dI;omega
  clear b;go_enter Tryz.func43,Tryz.ntmps43;go_wp2_with fail;go_ret;exact⟨rfl,bN⟩
 have f2:(a==2)=false:=by simpa using f
 by_cases g:a=3
 ·subst g
  have c:((k:Int)==2)=z:=by
   rw[← b,jI,beq_iff_eq,eG];unfold dI;omega
  clear b;go_enter Tryz.func43,Tryz.ntmps43;go_wp2_with fail;go_ret;exact⟨rfl,bN⟩
 have f3:(a==3)=false:=by simpa using g
 by_cases h:a=4
 ·subst h
  have c:((k:Int)==2)=z:=by
   rw[← b,jI,beq_iff_eq,eG];unfold dI;omega
  clear b;go_enter Tryz.func43,Tryz.ntmps43;go_wp2_with fail;go_ret;exact⟨rfl,bN⟩
 have f4:(a==4)=false:=by simpa using h
 by_cases i:a=5
 ·subst i
  have c:((k:Int)==3)=z:=by
   rw[← b,jI,beq_iff_eq,eG];unfold dI;omega
  clear b;go_enter Tryz.func43,Tryz.ntmps43;go_wp2_with fail;go_ret;exact⟨rfl,bN⟩
 have f5:(a==5)=false:=by simpa using i
 by_cases j:a=6
 ·subst j
  have c:((k:Int)==4)=z:=by
   rw[← b,jI,beq_iff_eq,eG];unfold dI;omega
  clear b;go_enter Tryz.func43,Tryz.ntmps43;go_wp2_with fail;go_ret;exact⟨rfl,bN⟩
 have f6:(a==6)=false:=by simpa using j
 have f7:(a==7)=z:=by
  rw[← b,jI,beq_iff_eq,eG];unfold dI;omega
 clear b d f g h i j;go_enter Tryz.func43,Tryz.ntmps43;go_wp2_with fail;go_ret;exact⟨rfl,bN⟩
noncomputable def jk (l:List ByteArray):Int:=if l=[]∨3<l.length∨(∃ k∈l,30<k.size∨d_ k=0)then 1 else if ∃ (i:Nat) (h:i<l.length),i+1<l.length∧d_ l[i]≠5 then 6 else 0
theorem jT {l:List ByteArray} : jk l=0↔f_ l:=by
 unfold jk;constructor
 ·intro h
  split at h
  ·cases h
  split at h
  ·cases h
  rename_i a c;refine⟨fun e=>a (.inl e),yX fun e=>a (.inr (.inl (by omega))),fun k b=>⟨yX fun e=>a (.inr (.inr ⟨k,b,.inl (by omega)⟩)),fun e=>a (.inr (.inr ⟨k,b,.inr e⟩))⟩,fun i hi d=>yX fun e=>c ⟨i,hi,d,e⟩⟩
 ·intro h
  rw[if_neg,if_neg]
  ·rintro⟨i,hi,a,c⟩
   exact c (h.maps i hi a)
  ·rintro (a | a | ⟨k,b,a | a⟩)
   ·exact h.some a
   ·have:=h.few;omega
   ·have:=(h.each k b).1;omega
   ·exact (h.each k b).2 a
theorem jS {l:List ByteArray} (h:l=[]∨3<l.length∨(∃ k∈l,30<k.size∨d_ k=0)):jk l=1:=if_pos h
theorem zW {l:List ByteArray} (h:¬(l=[]∨3<l.length∨(∃ k∈l,30<k.size∨d_ k=0))) (a:∃ (i:Nat) (h:i<l.length),i+1<l.length∧d_ l[i]≠5):jk l=6:=by
 unfold jk;rw[if_neg h,if_pos a]
theorem Dh {l:List ByteArray} (h:¬(l=[]∨3<l.length∨(∃ k∈l,30<k.size∨d_ k=0))) (a:¬ ∃ (i:Nat) (h:i<l.length),i+1<l.length∧d_ l[i]≠5):jk l=0:=by
 unfold jk;rw[if_neg h,if_neg a]
theorem vN (l:List ByteArray) (n:Nat) (A:Option Addr) (c:Nat) (w:World) (z:Int) (hz:jk l=z) (hn:n≤1000) (hr:Rd w w.heap.size 1 A n c (strs l)) :
  Calls Tryz.prog 16 #[.slice A n c] w fun e w'=>e = .returned (.int .i64 z)∧av w w':=by
 have Q:=ah hz;have HA:=ah hr;have f:=ah (bM hr);clear hr hz
 by_cases X:n=0
 ·subst X
  obtain rfl:z=1:=by rw[← Q.o];exact jS (.inl (DZ f))
  go_enter Tryz.func16,Tryz.ntmps16;go_wp2_with fail;go_ret;exact⟨rfl,bN⟩
 have f0:((n:Int)==0)=false:=by simp;omega
 by_cases S:3<n
 ·have f3:decide ((3:Int)<(n:Int))=true:=aJ (by omega)
  obtain rfl:z=1:=by rw[← Q.o];exact jS (.inr (.inl (by rw[f.o];exact S)))
  clear X S;go_enter Tryz.func16,Tryz.ntmps16;go_wp2_with fail;go_ret;exact⟨rfl,bN⟩
 have f3:decide ((3:Int)<(n:Int))=false:=aM (by omega)
 have L:ai (0<n∧n≤3):=FL
 clear X S;go_enter Tryz.func16,Tryz.ntmps16;go_wp2_with fail
 go_loopw [15] (fun i wr=>∃ (k:Nat),k≤n∧i = .int .i64 k∧ai (∀ (j:Nat) (h:j<l.length),j<k→(l[j]).size≤30∧d_ l[j]≠0)∧ai (av w wr)) (fun i _=>n-(intOf i).toNat)
 case atStart=>exact⟨0,by omega,rfl,fun j _ h=>absurd h (by omega),bN⟩
 case round=>
  obtain⟨k,hk,rfl,J,a⟩:=hrel
  by_cases G:k<n
  ·have N:=a.o
   have B:k<l.length:=by rw[f.o];exact G
   obtain⟨g,o,rfl,O,H⟩:=gM HA (by omega);have q0:=(a.cell (p:=⟨g,o+k,none⟩) O).trans (H k B);have m:l[k]∈l:=bT B;obtain⟨x,u⟩:∃ x,x=l[k]:=⟨_,rfl⟩;rw[← u]at q0 m;obtain⟨C,b⟩:∃ C,C=d_ x:=⟨_,rfl⟩
   by_cases D:30<x.size
   ·have W:decide ((30:Int)<(x.size:Int))=true:=aJ (by omega)
    obtain rfl:z=1:=by rw[← Q.o];exact jS (.inr (.inr ⟨x,m,.inl D⟩))
    clear H m u b D N;go_wp2_with fail;go_ret;exact⟨rfl,a⟩
   have W:decide ((30:Int)<(x.size:Int))=false:=aM (by omega);have q:=ah (kL x wr)
   by_cases y:C=0
   ·obtain rfl:z=1:=by rw[← Q.o];exact jS (.inr (.inr ⟨x,m,.inr (by rw[← b];exact y)⟩))
    have s:=ah (b.symm.trans y);clear H m u b D N y;go_wp2_with fail;refine q.mono ?_;rw[s.o];rintro e w2 ⟨rfl,d⟩;have r:=ah (a.trans (d.mono a.size));clear d q;go_wp2_with fail;go_ret;exact⟨rfl,r⟩
   ·have fk0:((C:Int)==0)=false:=by simp;omega
    have v:ai (∀ (j:Nat) (h:j<l.length),j<k+1→(l[j]).size≤30∧d_ l[j]≠0):=fun j U hjk=>by
     by_cases e:j=k
     ·subst e;rw[← u,← b];exact⟨by omega,y⟩
     ·exact J.o j U (by omega)
    have s:=ah b;clear H m u b D N y;go_wp2_with fail;refine q.mono ?_;rw[← s.o];rintro e w2 ⟨rfl,d⟩;have r:=ah (a.trans (d.mono a.size));clear d q;go_wp2_with fail;go_roundw
    case rel=>exact⟨k+1,by omega,by go_num,v,r⟩
    case measure=>simp[intOf];omega
  ·obtain rfl:k=n:=by omega
   have R:ai (¬(l=[]∨3<l.length∨(∃ x∈l,30<x.size∨d_ x=0))):=by
    rintro (t | t | ⟨x,u,t⟩)
    ·have M:=f.o
     rw[t]at M;have S:=L.1
     simp at M
     omega
    ·have M:=f.o
     have S:=L.2;omega
    ·obtain⟨j,U,rfl⟩:=qz u
     have M:=J.o j U (by have:=f.o;omega)
     rcases t with t | t
     ·omega
     ·exact M.2 t
   have V:=a;clear J a G;go_wp2_with fail
   go_loopw [35] (fun i wz=>∃ (j:Nat),j≤k∧i = .int .i64 j∧ai (∀ (i:Nat) (h:i<l.length),i<j→i+1<l.length→d_ l[i]=5)∧ai (av w wz)) (fun i _=>k-(intOf i).toNat)
   case atStart=>exact⟨0,by omega,rfl,fun i _ h=>absurd h (by omega),V⟩
   case round=>
    obtain⟨j,U,rfl,J,a⟩:=hrel;have hkb:=L.o
    by_cases G:j<k
    ·by_cases Z:j+1<k
     ·have f1:decide ((j:Int)<(k:Int)-1)=true:=aJ (by omega)
      have B:j<l.length:=by rw[f.o];exact G
      obtain⟨g,o,rfl,O,H⟩:=gM HA (by omega);have q0:=(a.cell (p:=⟨g,o+j,none⟩) O).trans (H j B);obtain⟨x,u⟩:∃ x,x=l[j]:=⟨_,rfl⟩;rw[← u]at q0;obtain⟨C,b⟩:∃ C,C=d_ x:=⟨_,rfl⟩;have q:=ah (kL x wr)
      by_cases F:C=5
      ·have f5:((C:Int) != 5)=false:=by simp;omega
       have v:ai (∀ (i:Nat) (h:i<l.length),i<j+1→i+1<l.length→d_ l[i]=5):=fun i hi Y t=>by
        by_cases e:i=j
        ·subst e;rw[← u,← b];exact F
        ·exact J.o i hi (by omega) t
       have s:=ah b;clear H u b F;go_wp2_with fail;refine q.mono ?_;rw[← s.o];rintro e w2 ⟨rfl,d⟩;have r:=ah (a.trans (d.mono a.size));clear d q;go_wp2_with fail;go_roundw
       case rel=>exact⟨j+1,by omega,by go_num,v,r⟩
       case measure=>simp[intOf];omega
      ·have f5:((C:Int) != 5)=true:=by simp;omega
       obtain rfl:z=6:=by
        rw[← Q.o];exact zW R ⟨j,B,by rw[f.o];exact Z,by rw[← u,← b];exact F⟩
       have s:=ah b;clear H u b F;go_wp2_with fail;refine q.mono ?_;rw[← s.o];rintro e w2 ⟨rfl,d⟩;have r:=ah (a.trans (d.mono a.size));clear d q;go_wp2_with fail;go_ret;exact⟨rfl,r⟩
     ·have f1:decide ((j:Int)<(k:Int)-1)=false:=aM (by omega)
      have v:ai (∀ (i:Nat) (h:i<l.length),i<j+1→i+1<l.length→d_ l[i]=5):=fun i hi Y t=>J.o i hi (by have:=f.o;omega) t;go_wp2_with fail;go_roundw
      case rel=>exact⟨j+1,by omega,by go_num,v,a⟩
      case measure=>simp[intOf];omega
    ·obtain rfl:j=k:=by omega
     obtain rfl:z=0:=by
      rw[← Q.o];refine Dh R ?_;rintro⟨i,hi,t,M⟩;exact M (J.o i hi (by have:=f.o;omega) t)
     go_wp2_with fail;go_ret;exact⟨rfl,a⟩
theorem nO {l:List ByteArray} {n:Nat} (h:n<l.length) (a:l.length=n+1):bD l=d_ l[n]:=by
 unfold bD;rw[List.getLast?_eq_getElem?,a,Nat.add_sub_cancel,v_ h]
noncomputable def Ee (o:jK):Int:=if ¬jk o.path=0 then jk o.path else if ¬dI o.act (bD o.path)then 6 else if jM o then 0 else 1
theorem CY {o:jK} (h:¬jk o.path=0):Ee o=jk o.path:=if_pos h
theorem CX {o:jK} (h:jk o.path=0) (a:¬dI o.act (bD o.path)):Ee o=6:=by
 unfold Ee;rw[if_neg (fun b=>b h),if_pos a]
theorem mY {o:jK} (h:jM o):Ee o=0:=by
 unfold Ee;rw[if_neg (fun a=>a (jT.2 h.path)),if_neg (fun a=>a h.act),if_pos h]
theorem iG {o:jK} (h:jk o.path=0) (b:dI o.act (bD o.path)) (c:¬jM o):Ee o=1:=by
 unfold Ee;rw[if_neg (fun a=>a h),if_neg (fun a=>a b),if_neg c]
theorem xJ {o:jK} : Ee o=0↔jM o:=by
 constructor
 ·intro h
  unfold Ee at h
  split at h
  ·rename_i a;exact absurd h a
  split at h
  ·cases h
  split at h
  ·assumption
  ·cases h
 ·exact mY
theorem CZ {p:List ByteArray} {a v:Int} {s:ByteArray} (c:f_ p) (b:dI a (bD p)):jM ⟨p,a,s,v⟩↔((a=3∨a=4)→iV s)∧(a=6→s.size≤30)∧(¬(a=3∨a=4∨a=6)→s=⟨#[]⟩)∧(a=5 → -1099511627776≤v∧v≤1099511627776)∧(a≠5→v=0):=
 ⟨fun h=>⟨h.key,h.text,h.none_,h.num,h.zero⟩,fun h=>⟨c,b,h.1,h.2.1,h.2.2.1,h.2.2.2.1,h.2.2.2.2⟩⟩
theorem Ij (H:List ByteArray) (F:Int) (xs:ByteArray) (r:Int) (xA:Option Addr) (xn xc:Nat) (w:World) (z:Int) (hz:Ee ⟨H,F,xs,r⟩=z) (hn:xn≤1000) (Nz:Rd w w.heap.size 1 xA xn xc (strs H)) :
  Calls Tryz.prog 18 #[.agg #[.slice xA xn xc,.int .i64 F,.string xs,.int .i64 r]] w fun e w'=>e = .returned (.int .i64 z)∧av w w':=by
 obtain⟨g,W,hg,hW,Y,-,-,-,-⟩:=zi w (.slice xA xn xc) (.int .i64 F) (.string xs) (.int .i64 r) 27
 have c:ai (Kept [(⟨g,0,none⟩,.slice xA xn xc),(⟨g,1,none⟩,.int .i64 F),(⟨g,2,none⟩,.string xs),(⟨g,3,none⟩,.int .i64 r)] w W):=by
  have h0:=Kept.a_ Y
  refine (((h0.af ?_).af ?_).af ?_).af ?_ <;> (rw[hW,hg];go_simp)
 have n:=ah (Nz.later Y);have Q:=ah (bM Nz);have q:=ah hz;have HG:=ah hg;have HW:=ah hW;clear Nz hz hg hW Y;obtain⟨y,hy⟩:∃ y,jk H=y:=⟨_,rfl⟩;have t:=ah hy;clear hy;obtain⟨c0,c1,c2,c3,-⟩:=c.cj;go_enter Tryz.func18,Tryz.ntmps18;go_wp2_with fail;rw[← HG.o,← HW.o];refine (vN H xn xA xc W y t hn n).mono ?_;rintro e v1 ⟨rfl,i⟩;obtain⟨c,n⟩:=gI i c n;clear i;clear c0 c1 c2 c3
 by_cases N7:y=0
 ·subst N7
  have U:ai (f_ H):=jT.1 t
  obtain⟨m,rfl⟩:∃ m,xn=m+1:=by
   have G:=U.some;have h3:=Q.o
   cases H with
   | nil=>exact absurd rfl G
   | cons a l=>exact⟨l.length,by rw[← h3];rfl⟩
  have hm3:m≤2:=by have p:=U.few;have h3:=Q.o;omega
  obtain⟨kd,NC⟩:∃ kd,kd=bD H:=⟨_,rfl⟩;obtain⟨ok,NF⟩:∃ ok,decide (dI F kd)=ok:=⟨_,rfl⟩;have R:=ah NF;have O:=ah NC;clear NC NF
  have Z:m<H.length:=by rw[Q.o];omega
  obtain⟨b,o,rfl,hgl,hc⟩:=gM n (by omega);have q0:=hc m Z;have Ny:bD H=d_ H[m]:=nO Z Q.o;obtain⟨kk,NE⟩:∃ x,x=H[m]:=⟨_,rfl⟩;rw[← NE]at q0 Ny;have NA:=ah Ny;have c:=ah (c.af q0);clear hc NE Ny q0 Z
  have fw:IntKind.i64.wrap (m:Int)=(m:Int):=by rw[iN];omega
  have fx:IntKind.i64.wrap ((m:Int)+1-1)=(m:Int):=by rw[iN];omega
  have fy:(m:Int)<(m:Int)+1:=by omega
  obtain⟨c0,c1,c2,c3,c4,-⟩:=c.cj;go_wp2_with fail;clear c0 c1 c2 c3 c4
  cases ok with
  | false=>
   refine Rg (S:=eB _) c.drew.cj (fun d=>?_);obtain⟨N8,u,i⟩:=mW v1;obtain⟨c,n⟩:=gI i c n;clear i;rw[← u]at d ⊢;clear u;refine T4 0 10 1 11 2 12 3 13 ?_;refine T4 4 14 5 15 6 16 7 17 ?_;refine T2 8 18 9 19 ?_;refine Tc 10 (fun K M=>?_);go_simp;(go_at_call 14;refine (kL kk N8).mono ?_);rw[← NA.o,← O.o];rintro e N9 ⟨rfl,i⟩;obtain⟨c,n⟩:=gI i c n;clear i;clear d;refine Th M ?_ (fun d=>?_)
   ·exact c.cj
   clear M K;refine Tc 11 (fun K M=>?_);go_simp;(go_at_call 43;refine (xM F kd N9 false R).mono ?_);rintro e N_ ⟨rfl,i⟩;obtain⟨c,n⟩:=gI i c n;clear i;clear d;refine Th M ?_ (fun d=>?_)
   ·exact c.cj
   clear M K;refine Tk 12 22 ?_;refine Td ?_;clear d
   obtain rfl:z=6:=by
    rw[← q.o];exact CX t (by rw[← O.o];exact yF R)
   go_wp2_with fail;go_ret;exact⟨rfl,c.below⟩
  | true=>
   refine Rg (S:=eB _) c.drew.cj (fun d=>?_);obtain⟨N8,u,i⟩:=mW v1;obtain⟨c,n⟩:=gI i c n;clear i;rw[← u]at d ⊢;clear u;refine T4 0 10 1 11 2 12 3 13 ?_;refine T4 4 14 5 15 6 16 7 17 ?_;refine T2 8 18 9 19 ?_;refine Tc 10 (fun K M=>?_);go_simp;(go_at_call 14;refine (kL kk N8).mono ?_);rw[← NA.o,← O.o];rintro e N9 ⟨rfl,i⟩;obtain⟨c,n⟩:=gI i c n;clear i;clear d;refine Th M ?_ (fun d=>?_)
   ·exact c.cj
   clear M K;refine Tc 11 (fun K M=>?_);go_simp;(go_at_call 43;refine (xM F kd N9 true R).mono ?_);rintro e N_ ⟨rfl,i⟩;obtain⟨c,n⟩:=gI i c n;clear i;clear d;refine Th M ?_ (fun d=>?_)
   ·exact c.cj
   clear M K;refine Tk 12 22 ?_;refine Td ?_;clear d
   have j:ai (dI F (bD H)):=by rw[← O.o];exact jH R
   have NH:F=1∨F=2∨F=3∨F=4∨F=5∨F=6∨F=7:=by
    have h:=j.o;unfold dI at h;omega
   have f:=ah (CZ (v:=r) (s:=xs) U j)
   rcases NH with rfl | rfl | rfl | rfl | rfl | rfl | rfl
   ·have c0:=c.c0
    have c1:=c.c1;have c2:=c.c2;have c3:=c.c3;have c4:=c.c4
    by_cases D:xs=⟨#[]⟩
    ·subst D
     by_cases p:r=0
     ·subst p
      obtain rfl:z=0:=by
       rw[← q.o];exact mY (f.2 ⟨fun h=>absurd h (by decide),fun h=>absurd h (by decide),fun _=>rfl,fun h=>absurd h (by decide),fun _=>rfl⟩)
      go_wp2_with fail;go_ret;exact⟨rfl,c.below⟩
     ·have V:(r != 0)=true:=by simpa using p
      obtain rfl:z=1:=by
       rw[← q.o];exact iG t j fun h=>p ((f.1 h).2.2.2.2 (by decide))
      go_wp2_with fail;go_ret;exact⟨rfl,c.below⟩
    ·have L:(xs.toList==(ByteArray.mk #[]).toList)=false:=dJ D
     have X:(xs.toList != (ByteArray.mk #[]).toList)=true:=by unfold bne;rw[L];rfl
     have J:(ByteArray.mk #[]).toList=[]:=by rw[nu]
     have B:=L;have C:=X;rw[J]at B C;clear J
     obtain rfl:z=1:=by
      rw[← q.o];exact iG t j fun h=>D ((f.1 h).2.2.1 (by decide))
     go_wp2_with fail;go_ret;exact⟨rfl,c.below⟩
   ·have c0:=c.c0
    have c1:=c.c1;have c2:=c.c2;have c3:=c.c3;have c4:=c.c4
    by_cases D:xs=⟨#[]⟩
    ·subst D
     by_cases p:r=0
     ·subst p
      obtain rfl:z=0:=by
       rw[← q.o];exact mY (f.2 ⟨fun h=>absurd h (by decide),fun h=>absurd h (by decide),fun _=>rfl,fun h=>absurd h (by decide),fun _=>rfl⟩)
      go_wp2_with fail;go_ret;exact⟨rfl,c.below⟩
     ·have V:(r != 0)=true:=by simpa using p
      obtain rfl:z=1:=by
       rw[← q.o];exact iG t j fun h=>p ((f.1 h).2.2.2.2 (by decide))
      go_wp2_with fail;go_ret;exact⟨rfl,c.below⟩
    ·have L:(xs.toList==(ByteArray.mk #[]).toList)=false:=dJ D
     have X:(xs.toList != (ByteArray.mk #[]).toList)=true:=by unfold bne;rw[L];rfl
     have J:(ByteArray.mk #[]).toList=[]:=by rw[nu]
     have B:=L;have C:=X;rw[J]at B C;clear J
     obtain rfl:z=1:=by
      rw[← q.o];exact iG t j fun h=>D ((f.1 h).2.2.1 (by decide))
     go_wp2_with fail;go_ret;exact⟨rfl,c.below⟩
   ·obtain⟨ky,N⟩:∃ k,lg xs=k:=⟨_,rfl⟩
    have A:=ah N;clear N;obtain⟨c0,c1,c2,c3,c4,-⟩:=c.cj;go_wp2_with fail;refine (rM xs N_).mono ?_;rw[A.o];rintro e NI ⟨rfl,rfl⟩
    cases ky with
    | false=>
     obtain rfl:z=1:=by
      rw[← q.o]
      exact iG t j fun h=>by have G:=fI.2 ((f.1 h).1 (by decide));rw[A.o]at G;cases G
     go_wp2_with fail;go_ret;exact⟨rfl,c.below⟩
    | true=>
     by_cases p:r=0
     ·subst p
      obtain rfl:z=0:=by
       rw[← q.o];exact mY (f.2 ⟨fun _=>fI.1 A,fun h=>absurd h (by decide),fun h=>absurd (by decide) h,fun h=>absurd h (by decide),fun _=>rfl⟩)
      go_wp2_with fail;go_ret;exact⟨rfl,c.below⟩
     ·have V:(r != 0)=true:=by simpa using p
      obtain rfl:z=1:=by
       rw[← q.o];exact iG t j fun h=>p ((f.1 h).2.2.2.2 (by decide))
      go_wp2_with fail;go_ret;exact⟨rfl,c.below⟩
   ·obtain⟨ky,N⟩:∃ k,lg xs=k:=⟨_,rfl⟩
    have A:=ah N;clear N;obtain⟨c0,c1,c2,c3,c4,-⟩:=c.cj;go_wp2_with fail;refine (rM xs N_).mono ?_;rw[A.o];rintro e NI ⟨rfl,rfl⟩
    cases ky with
    | false=>
     obtain rfl:z=1:=by
      rw[← q.o]
      exact iG t j fun h=>by have G:=fI.2 ((f.1 h).1 (by decide));rw[A.o]at G;cases G
     go_wp2_with fail;go_ret;exact⟨rfl,c.below⟩
    | true=>
     by_cases p:r=0
     ·subst p
      obtain rfl:z=0:=by
       rw[← q.o];exact mY (f.2 ⟨fun _=>fI.1 A,fun h=>absurd h (by decide),fun h=>absurd (by decide) h,fun h=>absurd h (by decide),fun _=>rfl⟩)
      go_wp2_with fail;go_ret;exact⟨rfl,c.below⟩
     ·have V:(r != 0)=true:=by simpa using p
      obtain rfl:z=1:=by
       rw[← q.o];exact iG t j fun h=>p ((f.1 h).2.2.2.2 (by decide))
      go_wp2_with fail;go_ret;exact⟨rfl,c.below⟩
   ·have c0:=c.c0
    have c1:=c.c1;have c2:=c.c2;have c3:=c.c3;have c4:=c.c4
    by_cases D:xs=⟨#[]⟩
    ·subst D
     by_cases p:1099511627776<r
     ·have V:decide (1099511627776<r)=true:=aJ p
      obtain rfl:z=1:=by
       rw[← q.o]
       exact iG t j fun h=>by have G:=((f.1 h).2.2.2.1 rfl);omega
      go_wp2_with fail;go_ret;exact⟨rfl,c.below⟩
     have V:decide (1099511627776<r)=false:=aM p
     by_cases G:r < -1099511627776
     ·have f2:decide (r < -1099511627776)=true:=aJ G
      obtain rfl:z=1:=by
       rw[← q.o]
       exact iG t j fun h=>by have G:=((f.1 h).2.2.2.1 rfl);omega
      go_wp2_with fail;go_ret;exact⟨rfl,c.below⟩
     have f2:decide (r < -1099511627776)=false:=aM G
     obtain rfl:z=0:=by
      rw[← q.o];exact mY (f.2 ⟨fun h=>absurd h (by decide),fun h=>absurd h (by decide),fun _=>rfl,fun _=>⟨by omega,by omega⟩,fun h=>absurd rfl h⟩)
     go_wp2_with fail;go_ret;exact⟨rfl,c.below⟩
    ·have L:(xs.toList==(ByteArray.mk #[]).toList)=false:=dJ D
     have X:(xs.toList != (ByteArray.mk #[]).toList)=true:=by unfold bne;rw[L];rfl
     have J:(ByteArray.mk #[]).toList=[]:=by rw[nu]
     have B:=L;have C:=X;rw[J]at B C;clear J
     obtain rfl:z=1:=by
      rw[← q.o];exact iG t j fun h=>D ((f.1 h).2.2.1 (by decide))
     go_wp2_with fail;go_ret;exact⟨rfl,c.below⟩
   ·have c0:=c.c0
    have c1:=c.c1;have c2:=c.c2;have c3:=c.c3;have c4:=c.c4
    by_cases h30:30<xs.size
    ·have NG:decide ((30:Int)<(xs.size:Int))=true:=aJ (by omega)
     obtain rfl:z=1:=by
      rw[← q.o]
      exact iG t j fun h=>by have G:=(f.1 h).2.1 rfl;omega
     go_wp2_with fail;go_ret;exact⟨rfl,c.below⟩
    have NG:decide ((30:Int)<(xs.size:Int))=false:=aM (by omega)
    by_cases p:r=0
    ·subst p
     obtain rfl:z=0:=by
      rw[← q.o];exact mY (f.2 ⟨fun h=>absurd h (by decide),fun _=>by omega,fun h=>absurd (by decide) h,fun h=>absurd h (by decide),fun _=>rfl⟩)
     go_wp2_with fail;go_ret;exact⟨rfl,c.below⟩
    ·have V:(r != 0)=true:=by simpa using p
     obtain rfl:z=1:=by
      rw[← q.o];exact iG t j fun h=>p ((f.1 h).2.2.2.2 (by decide))
     go_wp2_with fail;go_ret;exact⟨rfl,c.below⟩
   ·have c0:=c.c0
    have c1:=c.c1;have c2:=c.c2;have c3:=c.c3;have c4:=c.c4
    by_cases D:xs=⟨#[]⟩
    ·subst D
     by_cases p:r=0
     ·subst p
      obtain rfl:z=0:=by
       rw[← q.o];exact mY (f.2 ⟨fun h=>absurd h (by decide),fun h=>absurd h (by decide),fun _=>rfl,fun h=>absurd h (by decide),fun _=>rfl⟩)
      go_wp2_with fail;go_ret;exact⟨rfl,c.below⟩
     ·have V:(r != 0)=true:=by simpa using p
      obtain rfl:z=1:=by
       rw[← q.o];exact iG t j fun h=>p ((f.1 h).2.2.2.2 (by decide))
      go_wp2_with fail;go_ret;exact⟨rfl,c.below⟩
    ·have L:(xs.toList==(ByteArray.mk #[]).toList)=false:=dJ D
     have X:(xs.toList != (ByteArray.mk #[]).toList)=true:=by unfold bne;rw[L];rfl
     have J:(ByteArray.mk #[]).toList=[]:=by rw[nu]
     have B:=L;have C:=X;rw[J]at B C;clear J
     obtain rfl:z=1:=by
      rw[← q.o];exact iG t j fun h=>D ((f.1 h).2.2.1 (by decide))
     go_wp2_with fail;go_ret;exact⟨rfl,c.below⟩
 ·obtain rfl:z=y:=by
   rw[← q.o,← t.o];exact CY (by rw[t.o];exact N7)
  have f0:(z != 0)=true:=by simpa using N7
  go_wp2_with fail;go_ret;exact⟨rfl,c.below⟩
end Cs
end Go.Proofs.YtgeafpaognhokaaGreat
