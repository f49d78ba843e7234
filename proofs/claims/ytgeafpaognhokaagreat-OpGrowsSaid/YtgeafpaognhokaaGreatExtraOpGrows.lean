/- What this law needs besides. -/
import Derived.Test.YtgeafpaognhokaaGreatG00
import Derived.Test.YtgeafpaognhokaaGreatTreeRight
import Derived.Test.YtgeafpaognhokaaGreatCtx1
import Derived.Test.YtgeafpaognhokaaGreatG10
import Derived.Test.YtgeafpaognhokaaGreatSpanJoin
import Derived.Test.YtgeafpaognhokaaGreatCauHas
import Derived.Test.YtgeafpaognhokaaGreatG20
import Derived.Test.YtgeafpaognhokaaGreatTreeSearch
import Derived.Test.YtgeafpaognhokaaGreatG01
import Derived.Test.YtgeafpaognhokaaGreatTreeLeaves
import Derived.Test.YtgeafpaognhokaaGreatCauMrgE
import Derived.Test.YtgeafpaognhokaaGreatCauStayK
import Derived.Test.YtgeafpaognhokaaGreatCauMrgK
import Derived.Test.YtgeafpaognhokaaGreatG50
import Derived.Test.YtgeafpaognhokaaGreatSpanBy
import Derived.Test.YtgeafpaognhokaaGreatTreeRefRight
import Derived.Test.YtgeafpaognhokaaGreatTreeRefSame
import Derived.Test.YtgeafpaognhokaaGreatOpRef1
import Derived.Test.YtgeafpaognhokaaGreatTreeBuild
import Derived.Test.YtgeafpaognhokaaGreatG30
import Derived.Test.YtgeafpaognhokaaGreatCauJoin
import Derived.Test.YtgeafpaognhokaaGreatG60
import Derived.Test.YtgeafpaognhokaaGreatOpFull
import Derived.Test.YtgeafpaognhokaaGreatOpApply
import Derived.Test.YtgeafpaognhokaaGreatG80
import Derived.Test.YtgeafpaognhokaaGreatOpChg
import Derived.Test.YtgeafpaognhokaaGreatG70
import Derived.Test.YtgeafpaognhokaaGreatOpApp
import Derived.Test.YtgeafpaognhokaaGreatOpView
import Derived.Test.YtgeafpaognhokaaGreatOpPView
import Derived.Test.YtgeafpaognhokaaGreatG100
import Derived.Test.YtgeafpaognhokaaGreatOpStep
import Derived.Test.YtgeafpaognhokaaGreatOpRef5
import Derived.Test.YtgeafpaognhokaaGreatG110
import Derived.Test.YtgeafpaognhokaaGreatG1110
namespace Go.Proofs.YtgeafpaognhokaaGreat
set_option maxRecDepth 100000
set_option maxHeartbeats 4000000
section
namespace Cs
open Tr Cx Sp Classical
theorem Le {a b x:K} (h:l8 a b x):x_ a b=decide (x=b):=by
 unfold x_
 by_cases e:x=b
 ·subst e
  rw[aJ h,aJ rfl]
 ·rw[aM e,aM fun c=>e (h.eq c)]
end Cs
end
section
open ChangeShapes WideShapes ChangeAt RowKit
namespace Tr
open Sp Rw
open Classical in
noncomputable def lI {α:Type} (x y:α):Bool:=decide (x=y)
open Classical in
theorem gJ {α:Type} {x y:α} (h:x=y):lI x y=true:=aJ h
open Classical in
theorem eY {α:Type} {x y:α} (h:¬x=y):lI x y=false:=aM h
open Classical in
theorem kY {α:Type} {x y:α} : lI x y=true↔x=y:=eG
theorem iF {α:Type} {l m:List α} {k:Nat} (h:k<l.length) (h':k<m.length) (a:¬l[k]=m[k]):¬l=m:=fun e=>a (by subst e;rfl)
theorem rz (f b:List E) (n m:Nat) (A B:Option Addr) (c d:Nat) (w:World) (hl:f.length=n) (hm:b.length=m) (hn:n≤1000000) (hr:Rd w w.heap.size 4 A n c (bV f)) (hs:Rd w w.heap.size 4 B m d (bV b)) :
  Calls Tryz.prog 159 #[.slice A n c,.slice B m d] w fun e w'=>e = .returned (.bool (lI f b))∧av w w':=by
 have HR:=ah hr;have HS:=ah hs;have HL:=ah hl;have HM:=ah hm;obtain⟨z,hz⟩:∃ z,lI f b=z:=⟨_,rfl⟩;rw[hz];have O:=ah hz;clear hr hs hl hm hz
 by_cases V:n=m
 ·subst V
  have fz:((n:Int) != (n:Int))=false:=by simp
  go_enter Tryz.func159,Tryz.ntmps159;go_wp2_with fail
  go_loopw [13] (fun i wr=>∃ k:Nat,k≤n∧i = .int .i64 k∧ai (gF f b k)∧ai (av w wr)) (fun i _=>n-(intOf i).toNat)
  case atStart=>exact⟨0,by omega,rfl,gF.zero _ _,bN⟩
  case round=>
   obtain⟨k,hk,rfl,HT,u⟩:=hrel
   by_cases H:k<n
   ·obtain⟨g,j,rfl,F,x⟩:=fJ gQ HR (m:=k) H
    have q:k<f.length:=by rw[HL.o];exact H
    obtain⟨C,D,J,L,M⟩:∃ a n s v,f[k]=⟨a,n,s,v⟩:=⟨_,_,_,_,rfl⟩;have x0:=(u.cell (p:=⟨g,j+k*4+0,none⟩) F).trans (x k q 0 _ rfl);have x1:=(u.cell (p:=⟨g,j+k*4+1,none⟩) F).trans (x k q 1 _ rfl);have x2:=(u.cell (p:=⟨g,j+k*4+2,none⟩) F).trans (x k q 2 _ rfl);have x3:=(u.cell (p:=⟨g,j+k*4+3,none⟩) F).trans (x k q 3 _ rfl);rw[M]at x0 x1 x2 x3;dsimp only[Nat.add_zero]at x0 x1 x2 x3;obtain⟨h,l,rfl,G,y⟩:=fJ gQ HS (m:=k) H
    have r:k<b.length:=by rw[HM.o];exact H
    obtain⟨ya,yn,X,Q,N⟩:∃ a n s v,b[k]=⟨a,n,s,v⟩:=⟨_,_,_,_,rfl⟩;have y0:=(u.cell (p:=⟨h,l+k*4+0,none⟩) G).trans (y k r 0 _ rfl);have y1:=(u.cell (p:=⟨h,l+k*4+1,none⟩) G).trans (y k r 1 _ rfl);have y2:=(u.cell (p:=⟨h,l+k*4+2,none⟩) G).trans (y k r 2 _ rfl);have y3:=(u.cell (p:=⟨h,l+k*4+3,none⟩) G).trans (y k r 3 _ rfl);rw[N]at y0 y1 y2 y3;dsimp only[Nat.add_zero]at y0 y1 y2 y3;have R:=ah M;have U:=ah N;clear x y M N
    by_cases Y:C=ya
    ·subst Y
     by_cases Z:D=yn
     ·subst Z
      by_cases q2:J=X
      ·subst q2
       by_cases q3:L=Q
       ·subst q3
        have Nz:ai (f[k]=b[k]):=ah (by rw[R.o,U.o])
        go_wp2_with fail;refine Rk (S:=fun W=>W.cell? ⟨g,j+k*4,none⟩=some (.int .i64 C)∧W.cell? ⟨g,j+k*4+1,none⟩=some (.int .i64 D)∧W.cell? ⟨g,j+k*4+2,none⟩=some (.string J)∧W.cell? ⟨g,j+k*4+3,none⟩=some (.int .i64 L)∧W.cell? ⟨h,l+k*4,none⟩=some (.int .i64 C)∧W.cell? ⟨h,l+k*4+1,none⟩=some (.int .i64 D)∧W.cell? ⟨h,l+k*4+2,none⟩=some (.string J)∧W.cell? ⟨h,l+k*4+3,none⟩=some (.int .i64 L)) (fun hHeld=>?_);refine T4 0 16 1 17 2 18 3 19 ?_;refine T4 4 20 5 21 6 22 7 23 ?_;refine Tk 8 24 ?_;refine Td ?_;have N7:ai (gF f b (k+1)):=HT.succ fun _ _=>Nz.o;have Ny:=ah u.drew;go_wp2_with fail
        go_roundw
        case rel=>exact⟨k+1,by omega,by go_num,N7,Ny⟩
        case measure=>simp[intOf];omega
       ·have v0:(L==Q)=false:=gP.2 q3
        have t:ai (¬f[k]=b[k]):=ah (by rw[R.o,U.o];intro e;injection e with _ _ _ e;exact q3 e)
        clear q3;go_wp2_with fail;refine Rk (S:=fun W=>W.cell? ⟨g,j+k*4,none⟩=some (.int .i64 C)∧W.cell? ⟨g,j+k*4+1,none⟩=some (.int .i64 D)∧W.cell? ⟨g,j+k*4+2,none⟩=some (.string J)∧W.cell? ⟨g,j+k*4+3,none⟩=some (.int .i64 L)∧W.cell? ⟨h,l+k*4,none⟩=some (.int .i64 C)∧W.cell? ⟨h,l+k*4+1,none⟩=some (.int .i64 D)∧W.cell? ⟨h,l+k*4+2,none⟩=some (.string J)∧W.cell? ⟨h,l+k*4+3,none⟩=some (.int .i64 Q)) (fun hHeld=>?_);refine T4 0 16 1 17 2 18 3 19 ?_;refine T4 4 20 5 21 6 22 7 23 ?_;refine Tk 8 24 ?_;refine Td ?_;go_wp2_with fail;go_ret;exact⟨Dt.aj (by rw[← O.o];exact (eY (iF q r t)).symm),u.drew⟩
      ·have v0:(J.toList==X.toList)=false:=dJ q2
       have t:ai (¬f[k]=b[k]):=ah (by rw[R.o,U.o];intro e;injection e with _ _ e _;exact q2 e)
       clear q2;go_wp2_with fail;refine Rk (S:=fun W=>W.cell? ⟨g,j+k*4,none⟩=some (.int .i64 C)∧W.cell? ⟨g,j+k*4+1,none⟩=some (.int .i64 D)∧W.cell? ⟨g,j+k*4+2,none⟩=some (.string J)∧W.cell? ⟨g,j+k*4+3,none⟩=some (.int .i64 L)∧W.cell? ⟨h,l+k*4,none⟩=some (.int .i64 C)∧W.cell? ⟨h,l+k*4+1,none⟩=some (.int .i64 D)∧W.cell? ⟨h,l+k*4+2,none⟩=some (.string X)∧W.cell? ⟨h,l+k*4+3,none⟩=some (.int .i64 Q)) (fun hHeld=>?_);refine T4 0 16 1 17 2 18 3 19 ?_;refine T4 4 20 5 21 6 22 7 23 ?_;refine Tk 8 24 ?_;refine Td ?_;go_wp2_with fail;go_ret;exact⟨Dt.aj (by rw[← O.o];exact (eY (iF q r t)).symm),u.drew⟩
     ·have v0:(D==yn)=false:=gP.2 Z
      have t:ai (¬f[k]=b[k]):=ah (by rw[R.o,U.o];intro e;injection e with _ e _ _;exact Z e)
      clear Z;go_wp2_with fail;refine Rk (S:=fun W=>W.cell? ⟨g,j+k*4,none⟩=some (.int .i64 C)∧W.cell? ⟨g,j+k*4+1,none⟩=some (.int .i64 D)∧W.cell? ⟨g,j+k*4+2,none⟩=some (.string J)∧W.cell? ⟨g,j+k*4+3,none⟩=some (.int .i64 L)∧W.cell? ⟨h,l+k*4,none⟩=some (.int .i64 C)∧W.cell? ⟨h,l+k*4+1,none⟩=some (.int .i64 yn)∧W.cell? ⟨h,l+k*4+2,none⟩=some (.string X)∧W.cell? ⟨h,l+k*4+3,none⟩=some (.int .i64 Q)) (fun hHeld=>?_);refine T4 0 16 1 17 2 18 3 19 ?_;refine T4 4 20 5 21 6 22 7 23 ?_;refine Tk 8 24 ?_;refine Td ?_;go_wp2_with fail;go_ret;exact⟨Dt.aj (by rw[← O.o];exact (eY (iF q r t)).symm),u.drew⟩
    ·have v0:(C==ya)=false:=gP.2 Y
     have t:ai (¬f[k]=b[k]):=ah (by rw[R.o,U.o];intro e;injection e with e _ _ _;exact Y e)
     clear Y;go_wp2_with fail;refine Rk (S:=fun W=>W.cell? ⟨g,j+k*4,none⟩=some (.int .i64 C)∧W.cell? ⟨g,j+k*4+1,none⟩=some (.int .i64 D)∧W.cell? ⟨g,j+k*4+2,none⟩=some (.string J)∧W.cell? ⟨g,j+k*4+3,none⟩=some (.int .i64 L)∧W.cell? ⟨h,l+k*4,none⟩=some (.int .i64 ya)∧W.cell? ⟨h,l+k*4+1,none⟩=some (.int .i64 yn)∧W.cell? ⟨h,l+k*4+2,none⟩=some (.string X)∧W.cell? ⟨h,l+k*4+3,none⟩=some (.int .i64 Q)) (fun hHeld=>?_);refine T4 0 16 1 17 2 18 3 19 ?_;refine T4 4 20 5 21 6 22 7 23 ?_;refine Tk 8 24 ?_;refine Td ?_;go_wp2_with fail;go_ret;exact⟨Dt.aj (by rw[← O.o];exact (eY (iF q r t)).symm),u.drew⟩
   ·obtain rfl:k=n:=by omega
    go_wp2_with fail;go_ret;exact⟨Dt.aj (by rw[← O.o];exact (gJ (HT.all HL HM)).symm),u⟩
 ·have fz:((n:Int) != (m:Int))=true:=by simp;omega
  go_enter Tryz.func159,Tryz.ntmps159;go_wp2_with fail;go_ret;exact⟨Dt.aj (by rw[← O.o];exact (eY (fun e=>V (by rw[← HL.o,← HM.o,e]))).symm),bN⟩
end Tr
namespace Tr
open Sp Rw
theorem CJ {es a:List E} {ks b:List (ByteArray×T)} (h:¬es=a∨¬ks=b):¬T.mk es ks=T.mk a b:=by
 intro e;injection e with e1 e2
 rcases h with h | h
 ·exact h e1
 ·exact h e2
end Tr
namespace Tr
open Sp Rw
theorem ql (x y:ByteArray) (Ae Ak:Option Addr) (ne nk ce ck:Nat) (a b:Option Addr) (g h c d:Nat) (rb:Bool) (w:World) (hrec:∀ W,av w W→Calls Tryz.prog 128 #[.agg #[.slice Ae ne ce,.slice Ak nk ck],.agg #[.slice a g c,.slice b h d]] W fun e w'=>e = .returned (.bool rb)∧av W w') (z:Bool) (p:(lI x y&&rb)=z) :
  Calls Tryz.prog 161 #[.agg #[.string x,.slice Ae ne ce,.slice Ak nk ck],.agg #[.string y,.slice a g c,.slice b h d]] w fun e w'=>e = .returned (.bool z)∧av w w':=by
 have i:=ah hrec;have m:=ah p;have n:av w ((w.alloc (.cells #[.string x,.slice Ae ne ce,.slice Ak nk ck] 134)).alloc (.cells #[.string y,.slice a g c,.slice b h d] 134)):=Dt.bC _ _ _ _ _;have k:=ah n;clear hrec p n
 by_cases f:x=y
 ·subst f
  go_enter Tryz.func161,Tryz.ntmps161;go_wp2_with (go_at_call 128;refine (i.o _ k).mono ?_;rintro e w2 ⟨rfl,j⟩;have l:=ah (k.trans (j.mono k.size));clear j);go_ret;exact⟨Dt.aj (by rw[← m.o,gJ rfl,Bool.true_and]),l⟩
 ·have v0:(x.toList==y.toList)=false:=dJ f
  go_enter Tryz.func161,Tryz.ntmps161;go_wp2_with fail;go_ret;exact⟨Dt.aj (by rw[← m.o,eY f,Bool.false_and]),k⟩
theorem u6 (es NH:List E) (ks a:List (ByteArray×T)) (ih:∀ k∈ks,∀ (u:T) (Ae Ak:Option Addr) (ne nk ce ck:Nat) (H r:Option Addr) (O c L B:Nat) (w:World),nodes k.2≤1000000→aF w w.heap.size k.2 ⟨Ae,ne,ce⟩ ⟨Ak,nk,ck⟩→aF w w.heap.size u ⟨H,O,L⟩ ⟨r,c,B⟩→Calls Tryz.prog 128 #[.agg #[.slice Ae ne ce,.slice Ak nk ck],.agg #[.slice H O L,.slice r c B]] w fun e w'=>e = .returned (.bool (lI k.2 u))∧av w w') (Ae Ak:Option Addr) (ne nk ce ck:Nat) (H r:Option Addr) (O c L B:Nat) (w:World) (hn6:nk≤1000000) (hn:nodes (.mk es ks)≤1000000) (hr:aF w w.heap.size (.mk es ks) ⟨Ae,ne,ce⟩ ⟨Ak,nk,ck⟩) (hs:aF w w.heap.size (.mk NH a) ⟨H,O,L⟩ ⟨r,c,B⟩) :
  Calls Tryz.prog 160 #[.slice Ak nk ck,.slice r c B,.func (.func 161) #[] #[]] w fun e w'=>e = .returned (.bool (lI ks a))∧av w w':=by
 obtain⟨NE,X⟩:=bn hs;have HS:=ah hs;have t:=ah X;clear hs NE X;obtain⟨NC,NF⟩:=bn hr;have HR:=ah hr;have HLE:=ah NC;have Ny:=ah NF;clear NC NF hr;have IH:=ah ih;have HN:=ah hn;obtain⟨z,hz⟩:∃ z,lI ks a=z:=⟨_,rfl⟩;rw[hz];have HZ:=ah hz;clear ih hn hz
 by_cases hB:nk=c
 ·subst hB
  have fB:((nk:Int) != (nk:Int))=false:=by simp
  go_enter Tryz.func160,Tryz.ntmps160;go_wp2_with fail
  go_loopw [17] (fun i wr=>∃ j:Nat,j≤nk∧i = .int .i64 j∧ai (gF ks a j)∧ai (av w wr)) (fun i _=>nk-(intOf i).toNat)
  case atStart=>exact⟨0,by omega,rfl,gF.zero _ _,bN⟩
  case round=>
   obtain⟨j,hj,rfl,N7,J⟩:=hrel
   by_cases Y:j<nk
   ·obtain⟨b1,o1,rfl,Nz,N9⟩:=iJ HR (by omega)
    have N:j<ks.length:=by rw[Ny.o];exact Y
    obtain⟨⟨d,m,h⟩,⟨f,n,l⟩,c0,c1,c2,V⟩:=N9 j N;dsimp only at c0 c1 c2;have c0:=(J.cell (p:=⟨b1,o1+j*3,none⟩) Nz).trans c0;have c1:=(J.cell (p:=⟨b1,o1+j*3+1,none⟩) Nz).trans c1;have c2:=(J.cell (p:=⟨b1,o1+j*3+2,none⟩) Nz).trans c2;obtain⟨x,hx⟩:∃ x,x=(ks[j]).1:=⟨_,rfl⟩;rw[← hx]at c0;obtain⟨S,o2,rfl,b,N_⟩:=iJ HS (by omega)
    have NA:j<a.length:=by rw[t.o];exact Y
    obtain⟨⟨q,F,A⟩,⟨s,G,C⟩,d0,d1,d2,D⟩:=N_ j NA;dsimp only at d0 d1 d2;have d0:=(J.cell (p:=⟨S,o2+j*3,none⟩) b).trans d0;have d1:=(J.cell (p:=⟨S,o2+j*3+1,none⟩) b).trans d1;have d2:=(J.cell (p:=⟨S,o2+j*3+2,none⟩) b).trans d2;obtain⟨y,hy⟩:∃ y,y=(a[j]).1:=⟨_,rfl⟩;rw[← hy]at d0;have U:S<wr.heap.size:=aL wr _ d0;have d1':(wr.alloc (.cells #[.string x,.slice d m h,.slice f n l] 134)).cell? ⟨S,o2+j*3+1,none⟩=some (.slice q F A):=(World.cell?_alloc_lt wr _ ⟨S,o2+j*3+1,none⟩ U).trans d1;have d2':(wr.alloc (.cells #[.string x,.slice d m h,.slice f n l] 134)).cell? ⟨S,o2+j*3+2,none⟩=some (.slice s G C):=(World.cell?_alloc_lt wr _ ⟨S,o2+j*3+2,none⟩ U).trans d2
    obtain⟨v,hv⟩:∃ v,(lI x y&&lI (ks[j]).2 (a[j]).2)=v:=⟨_,rfl⟩
    have Q:ai (∀ W,av w W→Calls Tryz.prog 161 #[.agg #[.string x,.slice d m h,.slice f n l],.agg #[.string y,.slice q F A,.slice s G C]] W fun e w'=>e = .returned (.bool v)∧av W w'):=fun W hW=>by
     refine ql x y d f m n h l q s F G A C (lI (ks[j]).2 (a[j]).2) W (fun W2 NI=>?_) v hv;have M:=hW.trans (NI.mono hW.size);exact IH.o _ (bT N) _ d f m n h l q s F G A C W2 (aN (dM (bT N)) HN) (aF.more M.size _ (aF.below V M)) (aF.more M.size _ (aF.below D M))
    have R:ai (ks[j]=a[j]↔v=true):=by
     unfold ai;rw[← hv,Bool.and_eq_true,kY,kY,hx,hy];exact Prod.ext_iff
    have N8:av w ((wr.alloc (.cells #[.string x,.slice d m h,.slice f n l] 134)).alloc (.cells #[.string y,.slice q F A,.slice s G C] 134)):=J.trans ((Dt.bC wr _ _ _ _).mono J.size);have g:=ah N8;clear N9 N_ V D hx hy hv N8
    cases v with
    | true=>
     have NG:ai (gF ks a (j+1)):=N7.succ fun _ _=>R.2 (by simp);go_wp2_with (go_at_call 161;refine (Q.o _ g).mono ?_;rintro e w2 ⟨rfl,b⟩;have Z:=ah (g.trans (b.mono g.size));clear b);go_roundw
     case rel=>exact⟨j+1,by omega,by go_num,NG,Z⟩
     case measure=>simp[intOf];omega
    | false=>
     go_wp2_with (go_at_call 161;refine (Q.o _ g).mono ?_;rintro e w2 ⟨rfl,b⟩;have Z:=ah (g.trans (b.mono g.size));clear b);go_ret;exact⟨Dt.aj (by rw[← HZ.o];exact (eY (iF N NA (fun e=>by have:=R.1 e;simp at this))).symm),Z⟩
   ·obtain rfl:j=nk:=by omega
    go_wp2_with fail;go_ret;exact⟨Dt.aj (by rw[← HZ.o];exact (gJ (N7.all Ny t)).symm),J⟩
 ·have fB:((nk:Int) != (c:Int))=true:=by simp;omega
  go_enter Tryz.func160,Tryz.ntmps160;go_wp2_with fail;go_ret;exact⟨Dt.aj (by rw[← HZ.o];exact (eY (fun e=>hB (by rw[← Ny.o,← t.o,e]))).symm),bN⟩
theorem xX:∀ (t u:T) (Ae Ak:Option Addr) (ne nk ce ck:Nat) (c i:Option Addr) (f k d j:Nat) (w:World),nodes t≤1000000→aF w w.heap.size t ⟨Ae,ne,ce⟩ ⟨Ak,nk,ck⟩→aF w w.heap.size u ⟨c,f,d⟩ ⟨i,k,j⟩ →
  Calls Tryz.prog 128 #[.agg #[.slice Ae ne ce,.slice Ak nk ck],.agg #[.slice c f d,.slice i k j]] w fun e w'=>e = .returned (.bool (lI t u))∧av w w':=by
 intro t
 induction t using T.ind with
 | h es ks ih=>
  intro u Ae Ak ne nk ce ck c i f k d j w hn M U
  cases u with
  | mk l v=>
   have C:=bn M
   have S:ne≤1000000:=by have:=bE es ks;omega
   have R:nk≤1000000:=by have:=bE es ks;omega
   have r:=M;rw[gL]at r;have s:=U;rw[gL]at s
   have y:ai (∀ W,av w W→Calls Tryz.prog 159 #[.slice Ae ne ce,.slice c f d] W fun e w'=>e = .returned (.bool (lI es l))∧av W w'):=fun W p=>
    rz es l ne f Ae c ce d W r.1 s.1 S ((r.2.1.below p).more p.size) ((s.2.1.below p).more p.size)
   have D:ai (∀ W,av w W→Calls Tryz.prog 160 #[.slice Ak nk ck,.slice i k j,.func (.func 161) #[] #[]] W fun e w'=>e = .returned (.bool (lI ks v))∧av W w'):=fun W p=>
    u6 es l ks v ih Ae Ak ne nk ce ck c i f k d j W R hn (aF.more p.size _ (aF.below M p)) (aF.more p.size _ (aF.below U p))
   obtain⟨z,V⟩:∃ z,lI (T.mk es ks) (T.mk l v)=z:=⟨_,rfl⟩;rw[V];obtain⟨Y,m⟩:∃ z,lI es l=z:=⟨_,rfl⟩;obtain⟨zk,n⟩:∃ z,lI ks v=z:=⟨_,rfl⟩;rw[m]at y;rw[n]at D
   have hand:z=(Y&&zk):=by
    rw[← V]
    cases Y with
    | false=>rw[Bool.false_and];exact eY (CJ (.inl fun e=>by rw[gJ e]at m;cases m))
    | true=>
     cases zk with
     | false=>rw[Bool.true_and];exact eY (CJ (.inr fun e=>by rw[gJ e]at n;cases n))
     | true=>exact gJ (by rw[kY.1 m,kY.1 n])
   have x:=ah hand;clear ih M U r s C V m n hand;obtain⟨g,Q⟩:∃ g,g=w.heap.size:=⟨_,rfl⟩;have F:=ah (bQ w Ae Ak ne nk ce ck);rw[← Q]at F;obtain⟨W0,B⟩:∃ W,W=w.alloc (.cells #[.slice Ae ne ce,.slice Ak nk ck] 35):=⟨_,rfl⟩;rw[← B]at F;have O:=ah Q;have A:=ah B;have X:=F.c0;have N:=F.c1;clear Q B;obtain⟨q,W1,hq,J,L,q0,q1⟩:=A_ W0 (.slice c f d) (.slice i k j) 35;have G:=ah (((F.later L).af q1).af q0)
   have Z:ai (q=g+1):=ah (by rw[hq,A.o,O.o];simp)
   have H:=ah J;clear hq J L q0 q1 X N;obtain⟨X,N,k2,k3,-⟩:=G.cj;have a:=G
   cases Y with
   | false=>
    go_enter Tryz.func128,Tryz.ntmps128;go_wp2_with fail;rw[← O.o,← A.o,← Z.o,← H.o];refine (y.o _ a.below).mono ?_;rintro e w2 ⟨rfl,b⟩;have a:=ah (a.later b);clear b;go_wp2_with fail;go_ret;exact⟨Dt.aj (by rw[x.o];rfl),a.below⟩
   | true=>
    go_enter Tryz.func128,Tryz.ntmps128;go_wp2_with fail;rw[← O.o,← A.o,← Z.o,← H.o];refine (y.o _ a.below).mono ?_;rintro e w2 ⟨rfl,b⟩;have a:=ah (a.later b);clear b X N k2 k3;have N:=a.c1;have k3:=a.c3;go_wp2_with fail;refine (D.o _ a.below).mono ?_;rintro e w3 ⟨rfl,b⟩;have a:=ah (a.later b);clear b;go_wp2_with fail;go_ret;exact⟨Dt.aj (by rw[x.o];rfl),a.below⟩
theorem uY (t u:T) (Ae Ak:Option Addr) (ne nk ce ck:Nat) (c d:Option Addr) (i j f h:Nat) (w:World) (L:LenT reachBytes t) (M:nodes t≤1000000) (H:aF w w.heap.size t ⟨Ae,ne,ce⟩ ⟨Ak,nk,ck⟩) (O:aF w w.heap.size u ⟨c,i,f⟩ ⟨d,j,h⟩) :
  Calls Tryz.prog 77 #[.agg #[.slice Ae ne ce,.slice Ak nk ck],.agg #[.slice c i f,.slice d j h]] w fun e w'=>e = .returned (.bool (ak 5 t&&lI t u))∧av w w':=by
 have k:ai (∀ W,av w W→Calls Tryz.prog 46 #[.agg #[.slice Ae ne ce,.slice Ak nk ck]] W fun e w'=>e = .returned (.bool (ak 5 t))∧av W w'):=fun W m=>bS t Ae Ak ne nk ce ck W L (aF.more m.size _ (aF.below H m));have s:ai (∀ W,av w W→Calls Tryz.prog 128 #[.agg #[.slice Ae ne ce,.slice Ak nk ck],.agg #[.slice c i f,.slice d j h]] W fun e w'=>e = .returned (.bool (lI t u))∧av W w'):=fun W m=>xX t u Ae Ak ne nk ce ck c d i j f h W M (aF.more m.size _ (aF.below H m)) (aF.more m.size _ (aF.below O m));clear L M H O;obtain⟨g,G⟩:∃ g,g=w.heap.size:=⟨_,rfl⟩;have p:=ah (bQ w Ae Ak ne nk ce ck);rw[← G]at p;obtain⟨V,n⟩:∃ W,W=w.alloc (.cells #[.slice Ae ne ce,.slice Ak nk ck] 35):=⟨_,rfl⟩
 rw[← n]at p;have F:=ah G;have l:=ah n;have C:=p.c0;have D:=p.c1;clear G n;obtain⟨q,W1,N,y,z,S,U⟩:=A_ V (.slice c i f) (.slice d j h) 35;have r:=ah (((p.later z).af U).af S)
 have J:ai (q=g+1):=ah (by rw[N,l.o,F.o];simp)
 have x:=ah y;clear N y z S U C D;obtain⟨C,D,Q,R,-⟩:=r.cj;have a:=r;obtain⟨v,A⟩:∃ v,lI t u=v:=⟨_,rfl⟩;rw[A]at s
 cases B:ak 5 t with
 | false=>
  rw[B]at k;clear B A;rw[Bool.false_and];go_enter Tryz.func77,Tryz.ntmps77;go_wp2_with fail;rw[← F.o,← l.o,← J.o,← x.o];refine (k.o _ a.below).mono ?_;rintro e X ⟨rfl,b⟩;have a:=ah (a.later b);clear b;go_wp2_with fail;go_ret;exact⟨rfl,a.below⟩
 | true=>
  rw[B]at k;rw[Bool.true_and,A];clear B A;go_enter Tryz.func77,Tryz.ntmps77;go_wp2_with fail;rw[← F.o,← l.o,← J.o,← x.o];refine (k.o _ a.below).mono ?_;rintro e X ⟨rfl,b⟩;have a:=ah (a.later b);clear b C D Q R;obtain⟨C,D,Q,R,-⟩:=a.cj;go_wp2_with fail;refine (s.o _ a.below).mono ?_;rintro e w3 ⟨rfl,b⟩;have a:=ah (a.later b);clear b;go_wp2_with fail;go_ret;exact⟨rfl,a.below⟩
end Tr
namespace Cx
open Sp Rw
set_option maxRecDepth 100000 in
set_option maxHeartbeats 2000000 in
theorem ru (a b:List S3) (n m:Nat) (A B:Option Addr) (c d:Nat) (w:World) (ha:a.length=n) (hb:b.length=m) (hn:n≤1000000) (N:Rd w w.heap.size 3 A n c (aP a)) (O:Rd w w.heap.size 3 B m d (aP b)) (z:Bool) (hz:z=decide (a=b)) :
  Calls Tryz.prog 130 #[.slice A n c,.slice B m d] w fun e w'=>e = .returned (.bool z)∧av w w':=by
 have G:=ah hz;clear hz;have HA:=ah N;have HB:=ah O;have C:=ah ha;have D:=ah hb;clear N O ha hb
 by_cases M:n=m
 ·subst M
  have f0:(n != n)=false:=by simp
  go_enter Tryz.func130,Tryz.ntmps130;go_wp2
  go_loopw [13] (fun i wr=>∃ (k:Nat),k≤n∧i = .int .i64 k∧ai (a.take k=b.take k)∧ai (av w wr)) (fun i _=>n-(intOf i).toNat)
  case atStart=>exact⟨0,by omega,rfl,ah (by rw[List.take_zero,List.take_zero]),bN⟩
  case round=>
   obtain⟨k,hk,rfl,HT,f⟩:=hrel
   by_cases t:k<n
   ·have J:k<a.length:=by rw[C.o];exact t
    have L:k<b.length:=by rw[D.o];exact t
    obtain⟨g,o,rfl,F,H⟩:=jB HA t;obtain⟨g2,o2,rfl,r,q⟩:=jB HB t;obtain⟨R,S,U⟩:=H k J;obtain⟨V,W,X⟩:=q k L;have j:a.take (k+1)=a.take k++[a[k]]:=dZ J;have l:b.take (k+1)=b.take k++[b[k]]:=dZ L;obtain⟨p,u⟩:∃ p,p=a[k]:=⟨_,rfl⟩;obtain⟨s,v⟩:∃ s,s=b[k]:=⟨_,rfl⟩;rw[← u]at R S U j;rw[← v]at V W X l;obtain⟨x,y,z1⟩:=p;obtain⟨x',y',Q⟩:=s;dsimp only at R S U V W X;have R:=(f.cell (p:=⟨g,o+k*3,none⟩) F).trans R;have S:=(f.cell (p:=⟨g,o+k*3+1,none⟩) F).trans S;have U:=(f.cell (p:=⟨g,o+k*3+2,none⟩) F).trans U;have V:=(f.cell (p:=⟨g2,o2+k*3,none⟩) r).trans V;have W:=(f.cell (p:=⟨g2,o2+k*3+1,none⟩) r).trans W
    have X:=(f.cell (p:=⟨g2,o2+k*3+2,none⟩) r).trans X
    by_cases h0:x=x'
    ·subst h0
     by_cases h1:y=y'
     ·subst h1
      by_cases h2:z1=Q
      ·subst h2
       have Z:ai (a.take (k+1)=b.take (k+1)):=ah (by rw[j,l,HT.o])
       clear H q j l u v;go_wp2
       go_quiet (fail)
       go_wp2;go_roundw
       case rel=>exact⟨k+1,by omega,by go_num,Z,aK f _⟩
       case measure=>simp[intOf];omega
      ·have f2:(z1==Q)=false:=by simpa using h2
       have h:ai (decide (a=b)=false):=by
        apply aM
        rintro rfl;have:=u.trans v.symm;injection this with e1 e2;injection e2 with e2 e3;omega
       clear H q j l u v;go_wp2
       go_quiet (fail)
       go_wp2;go_ret;exact⟨aj (by rw[G.o,h.o]),aK f _⟩
     ·have f1:(y==y')=false:=by simpa using h1
      have h:ai (decide (a=b)=false):=by
       apply aM
       rintro rfl;have:=u.trans v.symm;injection this with e1 e2;injection e2 with e2 e3;omega
      clear H q j l u v;go_wp2
      go_quiet (fail)
      go_wp2;go_ret;exact⟨aj (by rw[G.o,h.o]),aK f _⟩
    ·have f0':(x==x')=false:=by simpa using h0
     have h:ai (decide (a=b)=false):=by
      apply aM
      rintro rfl;have:=u.trans v.symm;injection this with e1 e2;injection e2 with e2 e3;omega
     clear H q j l u v;go_wp2
     go_quiet (fail)
     go_wp2;go_ret;exact⟨aj (by rw[G.o,h.o]),aK f _⟩
   ·have hE:ai (decide (a=b)=true):=by
     have:=HT.o;rw[eO (by rw[C.o];omega),eO (by rw[D.o];omega)]at this;exact aJ this
    go_wp2;go_ret;exact⟨aj (by rw[G.o,hE.o]),f⟩
 ·have f0:((n:Int) != (m:Int))=true:=by simp;omega
  have h:decide (a=b)=false:=by
   apply aM
   rintro rfl;exact M (by rw[← C.o,D.o])
  have Y:=ah h;clear h;go_enter Tryz.func130,Tryz.ntmps130;go_wp2;go_ret;exact⟨aj (by rw[G.o,Y.o]),bN⟩
set_option maxHeartbeats 400000 in
theorem uW (a b:List S3) (n m:Nat) (A B:Option Addr) (c d:Nat) (w:World) (p:a.length=n) (s:b.length=m) (u:n≤100000) (g:Rd w w.heap.size 3 A n c (aP a)) (l:Rd w w.heap.size 3 B m d (aP b)) (z:Bool) (i:z=(bA a&&decide (a=b))) :
  Calls Tryz.prog 78 #[.slice A n c,.slice B m d] w fun e w'=>e = .returned (.bool z)∧av w w':=by
 obtain⟨x,r⟩:∃ x,x=bA a:=⟨_,rfl⟩;rw[← r]at i;have j:=ah (jW a n A c w p u g x r.symm);have k:=fun W (h:av w W)=>ah (ru a b n m A B c d W p s (by omega) ((g.below h).more h.size) ((l.below h).more h.size) _ rfl);clear p s g l r
 cases x with
 | false=>
  rw[Bool.false_and]at i;subst i;go_enter Tryz.func78,Tryz.ntmps78;go_wp2_with fail;refine j.mono ?_;rintro e t ⟨rfl,f⟩;go_wp2;go_ret;exact⟨rfl,f⟩
 | true=>
  rw[Bool.true_and]at i;rw[← i]at k;clear i;go_enter Tryz.func78,Tryz.ntmps78;go_wp2_with fail;refine j.mono ?_;rintro e t ⟨rfl,f⟩;go_wp2_with fail;refine (k t f).o.mono ?_;rintro e w2 ⟨rfl,q⟩;go_wp2;go_ret;exact⟨rfl,f.trans (q.mono f.size)⟩
end Cx
namespace Cs
open Tr Cx Sp Rw Classical
noncomputable def iT (a b:K):Bool:=bB a&&decide (a=b)
theorem uX {t u:T} {a d:List S3} (h:bB (t,a)=true):iT (t,a) (u,d)=(lI t u&&decide (a=d)):=by
 unfold iT;rw[h,Bool.true_and]
 by_cases b:t=u
 ·rw[gJ b,Bool.true_and]
  by_cases c:a=d
  ·rw[aJ c,aJ (by rw[b,c])]
  ·rw[aM c,aM fun h=>c (congrArg Prod.snd h)]
 ·rw[eY b,Bool.false_and,aM fun h=>b (congrArg Prod.fst h)]
theorem qI (t u:T) (j y:List S3) (Ae Ak r F G H:Option Addr) (ne nk ce ck m f M mk J L n i:Nat) (w:World) (X:nodes t≤1000) (V:j.length=m) (Q:m≤1000) (Y:aF w w.heap.size t ⟨Ae,ne,ce⟩ ⟨Ak,nk,ck⟩) (U:Rd w w.heap.size 3 r m f (aP j)) (C:nodes u≤1000) (B:y.length=n) (_hnb:n≤1000) (D:aF w w.heap.size u ⟨F,M,J⟩ ⟨G,mk,L⟩) (A:Rd w w.heap.size 3 H n i (aP y)) :
  Calls Tryz.prog 36 #[.agg #[.slice Ae ne ce,.slice Ak nk ck,.slice r m f],.agg #[.slice F M J,.slice G mk L,.slice H n i]] w fun e w'=>e = .returned (.bool (iT (t,j) (u,y)))∧av w w':=by
 obtain⟨z,S⟩:∃ z,iT (t,j) (u,y)=z:=⟨_,rfl⟩;rw[S];have d:=ah S;clear S;have g:=ah (And.intro X (And.intro V (And.intro Y U)));clear X V Y U;have N:=ah (And.intro C (And.intro B (And.intro D A)));clear C B D A;obtain⟨W,p,q,HW,HP,HQ,a⟩:=zh w Ae Ak F G r H ne nk ce ck M mk J L m f n i;obtain⟨c0,c1,c2,c3,c4,c5,-⟩:=a.cj;have h:=ah (jg t j Ae Ak r ne nk ce ck m f W g.1 g.2.1 Q (aF.more a.below.size _ (aF.below g.2.2.1 a.below)) ((g.2.2.2.below a.below).more a.below.size));go_enter Tryz.func36,Tryz.ntmps36;go_wp2_with fail;rw[← HW.o,← HP.o]
 try rw[← HQ.o]
 cases k:bB (t,j)with
 | false=>
  rw[k]at h
  obtain rfl:z=false:=by rw[← d.o];unfold iT;rw[k];rfl
  refine h.mono ?_;rintro e Z ⟨rfl,b⟩;have a:=ah (a.later b);clear b c0 c1 c2 c3 c4 c5 k;go_wp2_with fail;go_ret;exact⟨by first | rfl | (rw[d.o];rfl) | rw[d.o],a.below⟩
 | true=>
  rw[k]at h;have l:=d.o;rw[uX k]at l;have d:=ah l;have v:ai (RK (t,j)):=bI.1 k;clear k l;refine h.mono ?_;rintro e Z ⟨rfl,b⟩;have a:=ah (a.later b);clear b c0 c1 c2 c3 c4 c5;obtain⟨c0,c1,c2,c3,c4,c5,-⟩:=a.cj;obtain⟨x,R⟩:∃ x,lI t u=x:=⟨_,rfl⟩;have s:=ah (uY t u Ae Ak ne nk ce ck F G M mk J L Z (LenT.few (by have:=g.1;omega)) (by have:=g.1;omega) (aF.more a.below.size _ (aF.below g.2.2.1 a.below)) (aF.more a.below.size _ (aF.below N.2.2.1 a.below)));have c:=d.o;rw[aO.2 v.o.tree,Bool.true_and,R]at s;rw[R]at c;have d:=ah c;clear R c;go_wp2_with fail;refine s.mono ?_;rintro e v2 ⟨rfl,b⟩;have a:=ah (a.later b);clear b c0 c1 c2 c3 c4 c5
  cases x with
  | false=>
   obtain rfl:z=false:=by rw[← d.o];rfl
   go_wp2_with fail;go_ret;exact⟨by first | rfl | (rw[d.o];rfl) | rw[d.o],a.below⟩
  | true=>
   have c:=d.o;rw[Bool.true_and]at c;obtain⟨c0,c1,c2,c3,c4,c5,-⟩:=a.cj;have O:=ah (uW j y m n r H f i v2 g.2.1 N.2.1 (by omega) ((g.2.2.2.below a.below).more a.below.size) ((N.2.2.2.below a.below).more a.below.size) z (by rw[fK v.o.ctx,Bool.true_and,← c];try congr));clear c;go_wp2_with fail;refine O.mono ?_;rintro e v3 ⟨rfl,b⟩;have a:=ah (a.later b);clear b c0 c1 c2 c3 c4 c5;go_wp2_with fail;go_ret;exact⟨by first | rfl | (rw[d.o];rfl) | rw[d.o],a.below⟩
end Cs
namespace Cs
open Tr Cx Sp Rw Classical
theorem JH (t u:T) (k f:List S3) (Ae Ak V B C D:Option Addr) (ne nk ce ck A j U mk G H r d:Nat) (w:World) (hn:nodes t≤1000) (hl:k.length=A) (N8:A≤1000) (hr:aF w w.heap.size t ⟨Ae,ne,ce⟩ ⟨Ak,nk,ck⟩) (hc:Rd w w.heap.size 3 V A j (aP k)) (N:nodes u≤1000) (M:f.length=r) (O:r≤1000) (R:aF w w.heap.size u ⟨B,U,G⟩ ⟨C,mk,H⟩) (L:Rd w w.heap.size 3 D r d (aP f)) (hs:nodes t+nodes u≤1000) (hs2:A+r≤1000) (z:Bool) (hz:(bB (t,k)&&bB (u,f)&&x_ (t,k) (u,f))=z) :
  Calls Tryz.prog 38 #[.agg #[.slice Ae ne ce,.slice Ak nk ck,.slice V A j],.agg #[.slice B U G,.slice C mk H,.slice D r d]] w fun e w'=>e = .returned (.bool z)∧av w w':=by
 have Y:=ah hz;have HS:=ah hs;clear hz hs;have X:=ah (And.intro hn (And.intro hl (And.intro hr hc)));clear hn hl hr hc;have n:=ah (And.intro N (And.intro M (And.intro R L)));clear N M R L;obtain⟨W,p,q,HW,HP,HQ,a⟩:=zh w Ae Ak B C V D ne nk ce ck U mk G H A j r d;obtain⟨c0,c1,c2,c3,c4,c5,-⟩:=a.cj;have HJ:=ah (jO t u k f Ae Ak V B C D ne nk ce ck A j U mk G H r d W X.1 X.2.1 N8 (aF.more a.below.size _ (aF.below X.2.2.1 a.below)) ((X.2.2.2.below a.below).more a.below.size) n.1 n.2.1 O (aF.more a.below.size _ (aF.below n.2.2.1 a.below)) ((n.2.2.2.below a.below).more a.below.size));go_enter Tryz.func38,Tryz.ntmps38;go_wp2_with fail
 rw[← HW.o,← HP.o]
 try rw[← HQ.o]
 refine HJ.mono ?_;rintro e v1 ⟨x,y,m,Re,rn,rc,Rk,rm,rd,Rc,rq,re,rfl,Q,h⟩;have a:=ah (a.later h);have c:=ah Q;obtain⟨g,hg⟩:∃ g,g=v1.heap.size:=⟨_,rfl⟩;obtain⟨v2,l⟩:∃ v,v=v1.alloc (.cells #[.slice Re rn rc,.slice Rk rm rd,.slice Rc rq re] 42):=⟨_,rfl⟩
 have s:av v1 v2:=by rw[l];exact Dt.ay _ _ _
 have Ny:ai (Kept [(⟨g,0,none⟩,.slice Re rn rc),(⟨g,1,none⟩,.slice Rk rm rd),(⟨g,2,none⟩,.slice Rc rq re)] w v2):=by
  have h0:=Kept.a_ (a.below.trans (s.mono a.below.size))
  refine ((h0.af ?_).af ?_).af ?_ <;> (rw[l,hg];go_simp)
 obtain⟨c,a⟩:=gI s c a;have HG:=ah hg;have i:=ah l;clear h Q hg l s c0 c1 c2 c3 c4 c5
 by_cases b:RK (t,k)∧RK (u,f)
 ·obtain⟨rfl,Z,N9⟩:=m.1 b
  have N7:=ah (Z.right b.1 b.2)
  have Nz:ai (nodes x.1≤1000):=by
   unfold ai;rw[Z.tree];have:=mI 5 k f t u;have:=HS.o;show nodes (bf 5 k f t u)≤1000;omega
  have S:z=iT x (u,f):=by
   rw[← Y.o,bI.2 b.1,bI.2 b.2];unfold iT;rw[bI.2 N7.o,Le Z];rfl
  have J:=fun W (hb:av v2 W)=>qI x.1 u x.2 f Re Rk Rc B C D rn rm rc rd rq re U mk G H r d W Nz c.len (by have:=c.len;omega) (eH.later c hb).M_ (eH.later c hb).ctx.rd n.1 n.2.1 O (aF.more (a.later hb).below.size _ (aF.below n.2.2.1 (a.later hb).below)) ((n.2.2.2.below (a.later hb).below).more (a.later hb).below.size);have F:=ah (J v2 (bN));rw[show (x.1,x.2)=x from rfl,← S]at F;clear m b Z N9 J S;obtain⟨q0,q1,q2,-⟩:=Ny.cj;rw[i.o,HG.o]at q0 q1 q2;have d0:=a.c3;have d1:=a.c4;have d2:=a.c5;rw[i.o]at d0 d1 d2;go_wp2_with fail;rw[← i.o];refine F.mono ?_;rintro e v3 ⟨rfl,h⟩;have a:=ah (a.later h);clear h q0 q1 q2 d0 d1 d2;go_wp2_with fail
  go_ret;exact⟨by first | rfl | (rw[Y.o];rfl) | rw[Y.o],a.below⟩
 ·obtain⟨rfl,_⟩:=m.2 b
  obtain rfl:z=false:=by
   rw[← Y.o]
   cases h1:bB (t,k)with
   | false=>rfl
   | true=>
    cases h2:bB (u,f)with
    | false=>rfl
    | true=>exact absurd ⟨bI.1 h1,bI.1 h2⟩ b
  clear m b;go_wp2_with fail;rw[← i.o];go_ret;exact⟨rfl,a.below⟩
end Cs
end
end Go.Proofs.YtgeafpaognhokaaGreat
