/- What this law needs besides. -/
import Derived.Test.YtgeafpaognhokaaGreatG00
import Derived.Test.YtgeafpaognhokaaGreatTreeRight
import Derived.Test.YtgeafpaognhokaaGreatCtx1
import Derived.Test.YtgeafpaognhokaaGreatG10
import Derived.Test.YtgeafpaognhokaaGreatSpanJoin
import Derived.Test.YtgeafpaognhokaaGreatCauHas
import Derived.Test.YtgeafpaognhokaaGreatG20
import Derived.Test.YtgeafpaognhokaaGreatTreeSearch
import Derived.Test.YtgeafpaognhokaaGreatG01
import Derived.Test.YtgeafpaognhokaaGreatTreeLeaves
import Derived.Test.YtgeafpaognhokaaGreatCauMrgE
import Derived.Test.YtgeafpaognhokaaGreatCauStayK
import Derived.Test.YtgeafpaognhokaaGreatCauMrgK
import Derived.Test.YtgeafpaognhokaaGreatG50
import Derived.Test.YtgeafpaognhokaaGreatSpanBy
import Derived.Test.YtgeafpaognhokaaGreatTreeRefRight
import Derived.Test.YtgeafpaognhokaaGreatTreeRefSame
import Derived.Test.YtgeafpaognhokaaGreatOpRef1
import Derived.Test.YtgeafpaognhokaaGreatTreeBuild
import Derived.Test.YtgeafpaognhokaaGreatG30
import Derived.Test.YtgeafpaognhokaaGreatCauJoin
import Derived.Test.YtgeafpaognhokaaGreatG60
import Derived.Test.YtgeafpaognhokaaGreatOpFull
import Derived.Test.YtgeafpaognhokaaGreatOpApply
import Derived.Test.YtgeafpaognhokaaGreatG80
import Derived.Test.YtgeafpaognhokaaGreatOpChg
import Derived.Test.YtgeafpaognhokaaGreatG70
import Derived.Test.YtgeafpaognhokaaGreatOpApp
import Derived.Test.YtgeafpaognhokaaGreatOpView
import Derived.Test.YtgeafpaognhokaaGreatOpPView
import Derived.Test.YtgeafpaognhokaaGreatG100
import Derived.Test.YtgeafpaognhokaaGreatOpStep
import Derived.Test.YtgeafpaognhokaaGreatOpRef5
import Derived.Test.YtgeafpaognhokaaGreatG110
import Derived.Test.YtgeafpaognhokaaGreatG1110
namespace Go.Proofs.YtgeafpaognhokaaGreat
section
open ChangeShapes WideShapes ChangeAt RowKit
namespace Tr
open Sp Rw
open Classical in
noncomputable def lI {α:Type} (x y:α):Bool:=decide (x=y)
open Classical in
theorem gJ {α:Type} {x y:α} (h:x=y):lI x y=true:=aJ h
open Classical in
theorem eY {α:Type} {x y:α} (h:¬x=y):lI x y=false:=aM h
open Classical in
theorem kY {α:Type} {x y:α} : lI x y=true↔x=y:=eG
theorem iF {α:Type} {l m:List α} {k:Nat} (h:k<l.length) (h':k<m.length) (a:¬l[k]=m[k]):¬l=m:=fun e=>a (by subst e;rfl)
theorem rz (f b:List E) (n m:Nat) (A B:Option Addr) (c d:Nat) (w:World) (hl:f.length=n) (hm:b.length=m) (hn:n≤1000000) (hr:Rd w w.heap.size 4 A n c (bV f)) (hs:Rd w w.heap.size 4 B m d (bV b)) :
  Calls Tryz.prog 159 #[.slice A n c,.slice B m d] w fun e w'=>e = .returned (.bool (lI f b))∧av w w':=by
 have HR:=ah hr;have HS:=ah hs;have HL:=ah hl;have HM:=ah hm;obtain⟨z,hz⟩:∃ z,lI f b=z:=⟨_,rfl⟩;rw[hz];have O:=ah hz;clear hr hs hl hm hz
 by_cases V:n=m
 ·subst V
  have fz:((n:Int) != (n:Int))=false:=by simp
  go_enter Tryz.func159,Tryz.ntmps159;go_wp2_with fail
  go_loopw [13] (fun i wr=>∃ k:Nat,k≤n∧i = .int .i64 k∧ai (gF f b k)∧ai (av w wr)) (fun i _=>n-(intOf i).toNat)
  case atStart=>exact⟨0,by omega,rfl,gF.zero _ _,bN⟩
  case round=>
   obtain⟨k,hk,rfl,HT,u⟩:=hrel
   by_cases H:k<n
   ·obtain⟨g,j,rfl,F,x⟩:=fJ gQ HR (m:=k) H
    have q:k<f.length:=by rw[HL.o];exact H
    obtain⟨C,D,J,L,M⟩:∃ a n s v,f[k]=⟨a,n,s,v⟩:=⟨_,_,_,_,rfl⟩;have x0:=(u.cell (p:=⟨g,j+k*4+0,none⟩) F).trans (x k q 0 _ rfl);have x1:=(u.cell (p:=⟨g,j+k*4+1,none⟩) F).trans (x k q 1 _ rfl);have x2:=(u.cell (p:=⟨g,j+k*4+2,none⟩) F).trans (x k q 2 _ rfl);have x3:=(u.cell (p:=⟨g,j+k*4+3,none⟩) F).trans (x k q 3 _ rfl);rw[M]at x0 x1 x2 x3;dsimp only[Nat.add_zero]at x0 x1 x2 x3;obtain⟨h,l,rfl,G,y⟩:=fJ gQ HS (m:=k) H
    have r:k<b.length:=by rw[HM.o];exact H
    obtain⟨ya,yn,X,Q,N⟩:∃ a n s v,b[k]=⟨a,n,s,v⟩:=⟨_,_,_,_,rfl⟩;have y0:=(u.cell (p:=⟨h,l+k*4+0,none⟩) G).trans (y k r 0 _ rfl);have y1:=(u.cell (p:=⟨h,l+k*4+1,none⟩) G).trans (y k r 1 _ rfl);have y2:=(u.cell (p:=⟨h,l+k*4+2,none⟩) G).trans (y k r 2 _ rfl);have y3:=(u.cell (p:=⟨h,l+k*4+3,none⟩) G).trans (y k r 3 _ rfl);rw[N]at y0 y1 y2 y3;dsimp only[Nat.add_zero]at y0 y1 y2 y3;have R:=ah M;have U:=ah N;clear x y M N
    by_cases Y:C=ya
    ·subst Y
     by_cases Z:D=yn
     ·subst Z
      by_cases q2:J=X
      ·subst q2
       by_cases q3:L=Q
       ·subst q3
        have Nz:ai (f[k]=b[k]):=ah (by rw[R.o,U.o])
        go_wp2_with fail;refine Rk (S:=fun W=>W.cell? ⟨g,j+k*4,none⟩=some (.int .i64 C)∧W.cell? ⟨g,j+k*4+1,none⟩=some (.int .i64 D)∧W.cell? ⟨g,j+k*4+2,none⟩=some (.string J)∧W.cell? ⟨g,j+k*4+3,none⟩=some (.int .i64 L)∧W.cell? ⟨h,l+k*4,none⟩=some (.int .i64 C)∧W.cell? ⟨h,l+k*4+1,none⟩=some (.int .i64 D)∧W.cell? ⟨h,l+k*4+2,none⟩=some (.string J)∧W.cell? ⟨h,l+k*4+3,none⟩=some (.int .i64 L)) (fun hHeld=>?_);refine T4 0 16 1 17 2 18 3 19 ?_;refine T4 4 20 5 21 6 22 7 23 ?_;refine Tk 8 24 ?_;refine Td ?_;have N7:ai (gF f b (k+1)):=HT.succ fun _ _=>Nz.o;have Ny:=ah u.drew;go_wp2_with fail
        go_roundw
        case rel=>exact⟨k+1,by omega,by go_num,N7,Ny⟩
        case measure=>simp[intOf];omega
       ·have v0:(L==Q)=false:=gP.2 q3
        have t:ai (¬f[k]=b[k]):=ah (by rw[R.o,U.o];intro e;injection e with _ _ _ e;exact q3 e)
        clear q3;go_wp2_with fail;refine Rk (S:=fun W=>W.cell? ⟨g,j+k*4,none⟩=some (.int .i64 C)∧W.cell? ⟨g,j+k*4+1,none⟩=some (.int .i64 D)∧W.cell? ⟨g,j+k*4+2,none⟩=some (.string J)∧W.cell? ⟨g,j+k*4+3,none⟩=some (.int .i64 L)∧W.cell? ⟨h,l+k*4,none⟩=some (.int .i64 C)∧W.cell? ⟨h,l+k*4+1,none⟩=some (.int .i64 D)∧W.cell? ⟨h,l+k*4+2,none⟩=some (.string J)∧W.cell? ⟨h,l+k*4+3,none⟩=some (.int .i64 Q)) (fun hHeld=>?_);refine T4 0 16 1 17 2 18 3 19 ?_;refine T4 4 20 5 21 6 22 7 23 ?_;refine Tk 8 24 ?_;refine Td ?_;go_wp2_with fail;go_ret;exact⟨Dt.aj (by rw[← O.o];exact (eY (iF q r t)).symm),u.drew⟩
      ·have v0:(J.toList==X.toList)=false:=dJ q2
       have t:ai (¬f[k]=b[k]):=ah (by rw[R.o,U.o];intro e;injection e with _ _ e _;exact q2 e)
       clear q2;go_wp2_with fail;refine Rk (S:=fun W=>W.cell? ⟨g,j+k*4,none⟩=some (.int .i64 C)∧W.cell? ⟨g,j+k*4+1,none⟩=some (.int .i64 D)∧W.cell? ⟨g,j+k*4+2,none⟩=some (.string J)∧W.cell? ⟨g,j+k*4+3,none⟩=some (.int .i64 L)∧W.cell? ⟨h,l+k*4,none⟩=some (.int .i64 C)∧W.cell? ⟨h,l+k*4+1,none⟩=some (.int .i64 D)∧W.cell? ⟨h,l+k*4+2,none⟩=some (.string X)∧W.cell? ⟨h,l+k*4+3,none⟩=some (.int .i64 Q)) (fun hHeld=>?_);refine T4 0 16 1 17 2 18 3 19 ?_;refine T4 4 20 5 21 6 22 7 23 ?_;refine Tk 8 24 ?_;refine Td ?_;go_wp2_with fail;go_ret;exact⟨Dt.aj (by rw[← O.o];exact (eY (iF q r t)).symm),u.drew⟩
     ·have v0:(D==yn)=false:=gP.2 Z
      have t:ai (¬f[k]=b[k]):=ah (by rw[R.o,U.o];intro e;injection e with _ e _ _;exact Z e)
      clear Z;go_wp2_with fail;refine Rk (S:=fun W=>W.cell? ⟨g,j+k*4,none⟩=some (.int .i64 C)∧W.cell? ⟨g,j+k*4+1,none⟩=some (.int .i64 D)∧W.cell? ⟨g,j+k*4+2,none⟩=some (.string J)∧W.cell? ⟨g,j+k*4+3,none⟩=some (.int .i64 L)∧W.cell? ⟨h,l+k*4,none⟩=some (.int .i64 C)∧W.cell? ⟨h,l+k*4+1,none⟩=some (.int .i64 yn)∧W.cell? ⟨h,l+k*4+2,none⟩=some (.string X)∧W.cell? ⟨h,l+k*4+3,none⟩=some (.int .i64 Q)) (fun hHeld=>?_);refine T4 0 16 1 17 2 18 3 19 ?_;refine T4 4 20 5 21 6 22 7 23 ?_;refine Tk 8 24 ?_;refine Td ?_;go_wp2_with fail;go_ret;exact⟨Dt.aj (by rw[← O.o];exact (eY (iF q r t)).symm),u.drew⟩
    ·have v0:(C==ya)=false:=gP.2 Y
     have t:ai (¬f[k]=b[k]):=ah (by rw[R.o,U.o];intro e;injection e with e _ _ _;exact Y e)
     clear Y;go_wp2_with fail;refine Rk (S:=fun W=>W.cell? ⟨g,j+k*4,none⟩=some (.int .i64 C)∧W.cell? ⟨g,j+k*4+1,none⟩=some (.int .i64 D)∧W.cell? ⟨g,j+k*4+2,none⟩=some (.string J)∧W.cell? ⟨g,j+k*4+3,none⟩=some (.int .i64 L)∧W.cell? ⟨h,l+k*4,none⟩=some (.int .i64 ya)∧W.cell? ⟨h,l+k*4+1,none⟩=some (.int .i64 yn)∧W.cell? ⟨h,l+k*4+2,none⟩=some (.string X)∧W.cell? ⟨h,l+k*4+3,none⟩=some (.int .i64 Q)) (fun hHeld=>?_);refine T4 0 16 1 17 2 18 3 19 ?_;refine T4 4 20 5 21 6 22 7 23 ?_;refine Tk 8 24 ?_;refine Td ?_;go_wp2_with fail;go_ret;exact⟨Dt.aj (by rw[← O.o];exact (eY (iF q r t)).symm),u.drew⟩
   ·obtain rfl:k=n:=by omega
    go_wp2_with fail;go_ret;exact⟨Dt.aj (by rw[← O.o];exact (gJ (HT.all HL HM)).symm),u⟩
 ·have fz:((n:Int) != (m:Int))=true:=by simp;omega
  go_enter Tryz.func159,Tryz.ntmps159;go_wp2_with fail;go_ret;exact⟨Dt.aj (by rw[← O.o];exact (eY (fun e=>V (by rw[← HL.o,← HM.o,e]))).symm),bN⟩
end Tr
namespace Tr
open Sp Rw
theorem CJ {es a:List E} {ks b:List (ByteArray×T)} (h:¬es=a∨¬ks=b):¬T.mk es ks=T.mk a b:=by
 intro e;injection e with e1 e2
 rcases h with h | h
 ·exact h e1
 ·exact h e2
end Tr
namespace Tr
open Sp Rw
theorem ql (x y:ByteArray) (Ae Ak:Option Addr) (ne nk ce ck:Nat) (a b:Option Addr) (g h c d:Nat) (rb:Bool) (w:World) (hrec:∀ W,av w W→Calls Tryz.prog 128 #[.agg #[.slice Ae ne ce,.slice Ak nk ck],.agg #[.slice a g c,.slice b h d]] W fun e w'=>e = .returned (.bool rb)∧av W w') (z:Bool) (p:(lI x y&&rb)=z) :
  Calls Tryz.prog 161 #[.agg #[.string x,.slice Ae ne ce,.slice Ak nk ck],.agg #[.string y,.slice a g c,.slice b h d]] w fun e w'=>e = .returned (.bool z)∧av w w':=by
 have i:=ah hrec;have m:=ah p;have n:av w ((w.alloc (.cells #[.string x,.slice Ae ne ce,.slice Ak nk ck] 134)).alloc (.cells #[.string y,.slice a g c,.slice b h d] 134)):=Dt.bC _ _ _ _ _;have k:=ah n;clear hrec p n
 by_cases f:x=y
 ·subst f
  go_enter Tryz.func161,Tryz.ntmps161;go_wp2_with (go_at_call 128;refine (i.o _ k).mono ?_;rintro e w2 ⟨rfl,j⟩;have l:=ah (k.trans (j.mono k.size));clear j);go_ret;exact⟨Dt.aj (by rw[← m.o,gJ rfl,Bool.true_and]),l⟩
 ·have v0:(x.toList==y.toList)=false:=dJ f
  go_enter Tryz.func161,Tryz.ntmps161;go_wp2_with fail;go_ret;exact⟨Dt.aj (by rw[← m.o,eY f,Bool.false_and]),k⟩
theorem u6 (es NH:List E) (ks a:List (ByteArray×T)) (ih:∀ k∈ks,∀ (u:T) (Ae Ak:Option Addr) (ne nk ce ck:Nat) (H r:Option Addr) (O c L B:Nat) (w:World),nodes k.2≤1000000→aF w w.heap.size k.2 ⟨Ae,ne,ce⟩ ⟨Ak,nk,ck⟩→aF w w.heap.size u ⟨H,O,L⟩ ⟨r,c,B⟩→Calls Tryz.prog 128 #[.agg #[.slice Ae ne ce,.slice Ak nk ck],.agg #[.slice H O L,.slice r c B]] w fun e w'=>e = .returned (.bool (lI k.2 u))∧av w w') (Ae Ak:Option Addr) (ne nk ce ck:Nat) (H r:Option Addr) (O c L B:Nat) (w:World) (hn6:nk≤1000000) (hn:nodes (.mk es ks)≤1000000) (hr:aF w w.heap.size (.mk es ks) ⟨Ae,ne,ce⟩ ⟨Ak,nk,ck⟩) (hs:aF w w.heap.size (.mk NH a) ⟨H,O,L⟩ ⟨r,c,B⟩) :
  Calls Tryz.prog 160 #[.slice Ak nk ck,.slice r c B,.func (.func 161) #[] #[]] w fun e w'=>e = .returned (.bool (lI ks a))∧av w w':=by
 obtain⟨NE,X⟩:=bn hs;have HS:=ah hs;have t:=ah X;clear hs NE X;obtain⟨NC,NF⟩:=bn hr;have HR:=ah hr;have HLE:=ah NC;have Ny:=ah NF;clear NC NF hr;have IH:=ah ih;have HN:=ah hn;obtain⟨z,hz⟩:∃ z,lI ks a=z:=⟨_,rfl⟩;rw[hz];have HZ:=ah hz;clear ih hn hz
 by_cases hB:nk=c
 ·subst hB
  have fB:((nk:Int) != (nk:Int))=false:=by simp
  go_enter Tryz.func160,Tryz.ntmps160;go_wp2_with fail
  go_loopw [17] (fun i wr=>∃ j:Nat,j≤nk∧i = .int .i64 j∧ai (gF ks a j)∧ai (av w wr)) (fun i _=>nk-(intOf i).toNat)
  case atStart=>exact⟨0,by omega,rfl,gF.zero _ _,bN⟩
  case round=>
   obtain⟨j,hj,rfl,N7,J⟩:=hrel
   by_cases Y:j<nk
   ·obtain⟨b1,o1,rfl,Nz,N9⟩:=iJ HR (by omega)
    have N:j<ks.length:=by rw[Ny.o];exact Y
    obtain⟨⟨d,m,h⟩,⟨f,n,l⟩,c0,c1,c2,V⟩:=N9 j N;dsimp only at c0 c1 c2;have c0:=(J.cell (p:=⟨b1,o1+j*3,none⟩) Nz).trans c0;have c1:=(J.cell (p:=⟨b1,o1+j*3+1,none⟩) Nz).trans c1;have c2:=(J.cell (p:=⟨b1,o1+j*3+2,none⟩) Nz).trans c2;obtain⟨x,hx⟩:∃ x,x=(ks[j]).1:=⟨_,rfl⟩;rw[← hx]at c0;obtain⟨S,o2,rfl,b,N_⟩:=iJ HS (by omega)
    have NA:j<a.length:=by rw[t.o];exact Y
    obtain⟨⟨q,F,A⟩,⟨s,G,C⟩,d0,d1,d2,D⟩:=N_ j NA;dsimp only at d0 d1 d2;have d0:=(J.cell (p:=⟨S,o2+j*3,none⟩) b).trans d0;have d1:=(J.cell (p:=⟨S,o2+j*3+1,none⟩) b).trans d1;have d2:=(J.cell (p:=⟨S,o2+j*3+2,none⟩) b).trans d2;obtain⟨y,hy⟩:∃ y,y=(a[j]).1:=⟨_,rfl⟩;rw[← hy]at d0;have U:S<wr.heap.size:=aL wr _ d0;have d1':(wr.alloc (.cells #[.string x,.slice d m h,.slice f n l] 134)).cell? ⟨S,o2+j*3+1,none⟩=some (.slice q F A):=(World.cell?_alloc_lt wr _ ⟨S,o2+j*3+1,none⟩ U).trans d1;have d2':(wr.alloc (.cells #[.string x,.slice d m h,.slice f n l] 134)).cell? ⟨S,o2+j*3+2,none⟩=some (.slice s G C):=(World.cell?_alloc_lt wr _ ⟨S,o2+j*3+2,none⟩ U).trans d2
    obtain⟨v,hv⟩:∃ v,(lI x y&&lI (ks[j]).2 (a[j]).2)=v:=⟨_,rfl⟩
    have Q:ai (∀ W,av w W→Calls Tryz.prog 161 #[.agg #[.string x,.slice d m h,.slice f n l],.agg #[.string y,.slice q F A,.slice s G C]] W fun e w'=>e = .returned (.bool v)∧av W w'):=fun W hW=>by
     refine ql x y d f m n h l q s F G A C (lI (ks[j]).2 (a[j]).2) W (fun W2 NI=>?_) v hv;have M:=hW.trans (NI.mono hW.size);exact IH.o _ (bT N) _ d f m n h l q s F G A C W2 (aN (dM (bT N)) HN) (aF.more M.size _ (aF.below V M)) (aF.more M.size _ (aF.below D M))
    have R:ai (ks[j]=a[j]↔v=true):=by
     unfold ai;rw[← hv,Bool.and_eq_true,kY,kY,hx,hy];exact Prod.ext_iff
    have N8:av w ((wr.alloc (.cells #[.string x,.slice d m h,.slice f n l] 134)).alloc (.cells #[.string y,.slice q F A,.slice s G C] 134)):=J.trans ((Dt.bC wr _ _ _ _).mono J.size);have g:=ah N8;clear N9 N_ V D hx hy hv N8
    cases v with
    | true=>
     have NG:ai (gF ks a (j+1)):=N7.succ fun _ _=>R.2 (by simp);go_wp2_with (go_at_call 161;refine (Q.o _ g).mono ?_;rintro e w2 ⟨rfl,b⟩;have Z:=ah (g.trans (b.mono g.size));clear b);go_roundw
     case rel=>exact⟨j+1,by omega,by go_num,NG,Z⟩
     case measure=>simp[intOf];omega
    | false=>
     go_wp2_with (go_at_call 161;refine (Q.o _ g).mono ?_;rintro e w2 ⟨rfl,b⟩;have Z:=ah (g.trans (b.mono g.size));clear b);go_ret;exact⟨Dt.aj (by rw[← HZ.o];exact (eY (iF N NA (fun e=>by have:=R.1 e;simp at this))).symm),Z⟩
   ·obtain rfl:j=nk:=by omega
    go_wp2_with fail;go_ret;exact⟨Dt.aj (by rw[← HZ.o];exact (gJ (N7.all Ny t)).symm),J⟩
 ·have fB:((nk:Int) != (c:Int))=true:=by simp;omega
  go_enter Tryz.func160,Tryz.ntmps160;go_wp2_with fail;go_ret;exact⟨Dt.aj (by rw[← HZ.o];exact (eY (fun e=>hB (by rw[← Ny.o,← t.o,e]))).symm),bN⟩
theorem xX:∀ (t u:T) (Ae Ak:Option Addr) (ne nk ce ck:Nat) (c i:Option Addr) (f k d j:Nat) (w:World),nodes t≤1000000→aF w w.heap.size t ⟨Ae,ne,ce⟩ ⟨Ak,nk,ck⟩→aF w w.heap.size u ⟨c,f,d⟩ ⟨i,k,j⟩ →
  Calls Tryz.prog 128 #[.agg #[.slice Ae ne ce,.slice Ak nk ck],.agg #[.slice c f d,.slice i k j]] w fun e w'=>e = .returned (.bool (lI t u))∧av w w':=by
 intro t
 induction t using T.ind with
 | h es ks ih=>
  intro u Ae Ak ne nk ce ck c i f k d j w hn M U
  cases u with
  | mk l v=>
   have C:=bn M
   have S:ne≤1000000:=by have:=bE es ks;omega
   have R:nk≤1000000:=by have:=bE es ks;omega
   have r:=M;rw[gL]at r;have s:=U;rw[gL]at s
   have y:ai (∀ W,av w W→Calls Tryz.prog 159 #[.slice Ae ne ce,.slice c f d] W fun e w'=>e = .returned (.bool (lI es l))∧av W w'):=fun W p=>
    rz es l ne f Ae c ce d W r.1 s.1 S ((r.2.1.below p).more p.size) ((s.2.1.below p).more p.size)
   have D:ai (∀ W,av w W→Calls Tryz.prog 160 #[.slice Ak nk ck,.slice i k j,.func (.func 161) #[] #[]] W fun e w'=>e = .returned (.bool (lI ks v))∧av W w'):=fun W p=>
    u6 es l ks v ih Ae Ak ne nk ce ck c i f k d j W R hn (aF.more p.size _ (aF.below M p)) (aF.more p.size _ (aF.below U p))
   obtain⟨z,V⟩:∃ z,lI (T.mk es ks) (T.mk l v)=z:=⟨_,rfl⟩;rw[V];obtain⟨Y,m⟩:∃ z,lI es l=z:=⟨_,rfl⟩;obtain⟨zk,n⟩:∃ z,lI ks v=z:=⟨_,rfl⟩;rw[m]at y;rw[n]at D
   have hand:z=(Y&&zk):=by
    rw[← V]
    cases Y with
    | false=>rw[Bool.false_and];exact eY (CJ (.inl fun e=>by rw[gJ e]at m;cases m))
    | true=>
     cases zk with
     | false=>rw[Bool.true_and];exact eY (CJ (.inr fun e=>by rw[gJ e]at n;cases n))
     | true=>exact gJ (by rw[kY.1 m,kY.1 n])
   have x:=ah hand;clear ih M U r s C V m n hand;obtain⟨g,Q⟩:∃ g,g=w.heap.size:=⟨_,rfl⟩;have F:=ah (bQ w Ae Ak ne nk ce ck);rw[← Q]at F;obtain⟨W0,B⟩:∃ W,W=w.alloc (.cells #[.slice Ae ne ce,.slice Ak nk ck] 35):=⟨_,rfl⟩;rw[← B]at F;have O:=ah Q;have A:=ah B;have X:=F.c0;have N:=F.c1;clear Q B;obtain⟨q,W1,hq,J,L,q0,q1⟩:=A_ W0 (.slice c f d) (.slice i k j) 35;have G:=ah (((F.later L).af q1).af q0)
   have Z:ai (q=g+1):=ah (by rw[hq,A.o,O.o];simp)
   have H:=ah J;clear hq J L q0 q1 X N;obtain⟨X,N,k2,k3,-⟩:=G.cj;have a:=G
   cases Y with
   | false=>
    go_enter Tryz.func128,Tryz.ntmps128;go_wp2_with fail;rw[← O.o,← A.o,← Z.o,← H.o];refine (y.o _ a.below).mono ?_;rintro e w2 ⟨rfl,b⟩;have a:=ah (a.later b);clear b;go_wp2_with fail;go_ret;exact⟨Dt.aj (by rw[x.o];rfl),a.below⟩
   | true=>
    go_enter Tryz.func128,Tryz.ntmps128;go_wp2_with fail;rw[← O.o,← A.o,← Z.o,← H.o];refine (y.o _ a.below).mono ?_;rintro e w2 ⟨rfl,b⟩;have a:=ah (a.later b);clear b X N k2 k3;have N:=a.c1;have k3:=a.c3;go_wp2_with fail;refine (D.o _ a.below).mono ?_;rintro e w3 ⟨rfl,b⟩;have a:=ah (a.later b);clear b;go_wp2_with fail;go_ret;exact⟨Dt.aj (by rw[x.o];rfl),a.below⟩
theorem uY (t u:T) (Ae Ak:Option Addr) (ne nk ce ck:Nat) (c d:Option Addr) (i j f h:Nat) (w:World) (L:LenT reachBytes t) (M:nodes t≤1000000) (H:aF w w.heap.size t ⟨Ae,ne,ce⟩ ⟨Ak,nk,ck⟩) (O:aF w w.heap.size u ⟨c,i,f⟩ ⟨d,j,h⟩) :
  Calls Tryz.prog 77 #[.agg #[.slice Ae ne ce,.slice Ak nk ck],.agg #[.slice c i f,.slice d j h]] w fun e w'=>e = .returned (.bool (ak 5 t&&lI t u))∧av w w':=by
 have k:ai (∀ W,av w W→Calls Tryz.prog 46 #[.agg #[.slice Ae ne ce,.slice Ak nk ck]] W fun e w'=>e = .returned (.bool (ak 5 t))∧av W w'):=fun W m=>bS t Ae Ak ne nk ce ck W L (aF.more m.size _ (aF.below H m));have s:ai (∀ W,av w W→Calls Tryz.prog 128 #[.agg #[.slice Ae ne ce,.slice Ak nk ck],.agg #[.slice c i f,.slice d j h]] W fun e w'=>e = .returned (.bool (lI t u))∧av W w'):=fun W m=>xX t u Ae Ak ne nk ce ck c d i j f h W M (aF.more m.size _ (aF.below H m)) (aF.more m.size _ (aF.below O m));clear L M H O;obtain⟨g,G⟩:∃ g,g=w.heap.size:=⟨_,rfl⟩;have p:=ah (bQ w Ae Ak ne nk ce ck);rw[← G]at p;obtain⟨V,n⟩:∃ W,W=w.alloc (.cells #[.slice Ae ne ce,.slice Ak nk ck] 35):=⟨_,rfl⟩
 rw[← n]at p;have F:=ah G;have l:=ah n;have C:=p.c0;have D:=p.c1;clear G n;obtain⟨q,W1,N,y,z,S,U⟩:=A_ V (.slice c i f) (.slice d j h) 35;have r:=ah (((p.later z).af U).af S)
 have J:ai (q=g+1):=ah (by rw[N,l.o,F.o];simp)
 have x:=ah y;clear N y z S U C D;obtain⟨C,D,Q,R,-⟩:=r.cj;have a:=r;obtain⟨v,A⟩:∃ v,lI t u=v:=⟨_,rfl⟩;rw[A]at s
 cases B:ak 5 t with
 | false=>
  rw[B]at k;clear B A;rw[Bool.false_and];go_enter Tryz.func77,Tryz.ntmps77;go_wp2_with fail;rw[← F.o,← l.o,← J.o,← x.o];refine (k.o _ a.below).mono ?_;rintro e X ⟨rfl,b⟩;have a:=ah (a.later b);clear b;go_wp2_with fail;go_ret;exact⟨rfl,a.below⟩
 | true=>
  rw[B]at k;rw[Bool.true_and,A];clear B A;go_enter Tryz.func77,Tryz.ntmps77;go_wp2_with fail;rw[← F.o,← l.o,← J.o,← x.o];refine (k.o _ a.below).mono ?_;rintro e X ⟨rfl,b⟩;have a:=ah (a.later b);clear b C D Q R;obtain⟨C,D,Q,R,-⟩:=a.cj;go_wp2_with fail;refine (s.o _ a.below).mono ?_;rintro e w3 ⟨rfl,b⟩;have a:=ah (a.later b);clear b;go_wp2_with fail;go_ret;exact⟨rfl,a.below⟩
end Tr
namespace Cx
open Sp Rw
set_option maxRecDepth 100000 in
set_option maxHeartbeats 2000000 in
theorem Bz (a b:List S3) (n m:Nat) (A B:Option Addr) (c d:Nat) (w:World) (ha:a.length=n) (hb:b.length=m) (hn:n≤1000000) (N:Rd w w.heap.size 3 A n c (aP a)) (O:Rd w w.heap.size 3 B m d (aP b)) (z:Bool) (hz:z=decide (a=b)) :
  Calls Tryz.prog 35 #[.slice A n c,.slice B m d] w fun e w'=>e = .returned (.bool z)∧av w w':=by
 have G:=ah hz;clear hz;have HA:=ah N;have HB:=ah O;have C:=ah ha;have D:=ah hb;clear N O ha hb
 by_cases M:n=m
 ·subst M
  have f0:(n != n)=false:=by simp
  go_enter Tryz.func35,Tryz.ntmps35;go_wp2
  go_loopw [13] (fun i wr=>∃ (k:Nat),k≤n∧i = .int .i64 k∧ai (a.take k=b.take k)∧ai (av w wr)) (fun i _=>n-(intOf i).toNat)
  case atStart=>exact⟨0,by omega,rfl,ah (by rw[List.take_zero,List.take_zero]),bN⟩
  case round=>
   obtain⟨k,hk,rfl,HT,f⟩:=hrel
   by_cases t:k<n
   ·have J:k<a.length:=by rw[C.o];exact t
    have L:k<b.length:=by rw[D.o];exact t
    obtain⟨g,o,rfl,F,H⟩:=jB HA t;obtain⟨g2,o2,rfl,r,q⟩:=jB HB t;obtain⟨R,S,U⟩:=H k J;obtain⟨V,W,X⟩:=q k L;have j:a.take (k+1)=a.take k++[a[k]]:=dZ J;have l:b.take (k+1)=b.take k++[b[k]]:=dZ L;obtain⟨p,u⟩:∃ p,p=a[k]:=⟨_,rfl⟩;obtain⟨s,v⟩:∃ s,s=b[k]:=⟨_,rfl⟩;rw[← u]at R S U j;rw[← v]at V W X l;obtain⟨x,y,z1⟩:=p;obtain⟨x',y',Q⟩:=s;dsimp only at R S U V W X;have R:=(f.cell (p:=⟨g,o+k*3,none⟩) F).trans R;have S:=(f.cell (p:=⟨g,o+k*3+1,none⟩) F).trans S;have U:=(f.cell (p:=⟨g,o+k*3+2,none⟩) F).trans U;have V:=(f.cell (p:=⟨g2,o2+k*3,none⟩) r).trans V;have W:=(f.cell (p:=⟨g2,o2+k*3+1,none⟩) r).trans W
    have X:=(f.cell (p:=⟨g2,o2+k*3+2,none⟩) r).trans X
    by_cases h0:x=x'
    ·subst h0
     by_cases h1:y=y'
     ·subst h1
      by_cases h2:z1=Q
      ·subst h2
       have Z:ai (a.take (k+1)=b.take (k+1)):=ah (by rw[j,l,HT.o])
       clear H q j l u v;go_wp2
       go_quiet (fail)
       go_wp2;go_roundw
       case rel=>exact⟨k+1,by omega,by go_num,Z,aK f _⟩
       case measure=>simp[intOf];omega
      ·have f2:(z1==Q)=false:=by simpa using h2
       have h:ai (decide (a=b)=false):=by
        apply aM
        rintro rfl;have:=u.trans v.symm;injection this with e1 e2;injection e2 with e2 e3;omega
       clear H q j l u v;go_wp2
       go_quiet (fail)
       go_wp2;go_ret;exact⟨aj (by rw[G.o,h.o]),aK f _⟩
     ·have f1:(y==y')=false:=by simpa using h1
      have h:ai (decide (a=b)=false):=by
       apply aM
       rintro rfl;have:=u.trans v.symm;injection this with e1 e2;injection e2 with e2 e3;omega
      clear H q j l u v;go_wp2
      go_quiet (fail)
      go_wp2;go_ret;exact⟨aj (by rw[G.o,h.o]),aK f _⟩
    ·have f0':(x==x')=false:=by simpa using h0
     have h:ai (decide (a=b)=false):=by
      apply aM
      rintro rfl;have:=u.trans v.symm;injection this with e1 e2;injection e2 with e2 e3;omega
     clear H q j l u v;go_wp2
     go_quiet (fail)
     go_wp2;go_ret;exact⟨aj (by rw[G.o,h.o]),aK f _⟩
   ·have hE:ai (decide (a=b)=true):=by
     have:=HT.o;rw[eO (by rw[C.o];omega),eO (by rw[D.o];omega)]at this;exact aJ this
    go_wp2;go_ret;exact⟨aj (by rw[G.o,hE.o]),f⟩
 ·have f0:((n:Int) != (m:Int))=true:=by simp;omega
  have h:decide (a=b)=false:=by
   apply aM
   rintro rfl;exact M (by rw[← C.o,D.o])
  have Y:=ah h;clear h;go_enter Tryz.func35,Tryz.ntmps35;go_wp2;go_ret;exact⟨aj (by rw[G.o,Y.o]),bN⟩
set_option maxRecDepth 100000 in
set_option maxHeartbeats 2000000 in
theorem ru (a b:List S3) (n m:Nat) (A B:Option Addr) (c d:Nat) (w:World) (ha:a.length=n) (hb:b.length=m) (hn:n≤1000000) (N:Rd w w.heap.size 3 A n c (aP a)) (O:Rd w w.heap.size 3 B m d (aP b)) (z:Bool) (hz:z=decide (a=b)) :
  Calls Tryz.prog 130 #[.slice A n c,.slice B m d] w fun e w'=>e = .returned (.bool z)∧av w w':=by
 have G:=ah hz;clear hz;have HA:=ah N;have HB:=ah O;have C:=ah ha;have D:=ah hb;clear N O ha hb
 by_cases M:n=m
 ·subst M
  have f0:(n != n)=false:=by simp
  go_enter Tryz.func130,Tryz.ntmps130;go_wp2
  go_loopw [13] (fun i wr=>∃ (k:Nat),k≤n∧i = .int .i64 k∧ai (a.take k=b.take k)∧ai (av w wr)) (fun i _=>n-(intOf i).toNat)
  case atStart=>exact⟨0,by omega,rfl,ah (by rw[List.take_zero,List.take_zero]),bN⟩
  case round=>
   obtain⟨k,hk,rfl,HT,f⟩:=hrel
   by_cases t:k<n
   ·have J:k<a.length:=by rw[C.o];exact t
    have L:k<b.length:=by rw[D.o];exact t
    obtain⟨g,o,rfl,F,H⟩:=jB HA t;obtain⟨g2,o2,rfl,r,q⟩:=jB HB t;obtain⟨R,S,U⟩:=H k J;obtain⟨V,W,X⟩:=q k L;have j:a.take (k+1)=a.take k++[a[k]]:=dZ J;have l:b.take (k+1)=b.take k++[b[k]]:=dZ L;obtain⟨p,u⟩:∃ p,p=a[k]:=⟨_,rfl⟩;obtain⟨s,v⟩:∃ s,s=b[k]:=⟨_,rfl⟩;rw[← u]at R S U j;rw[← v]at V W X l;obtain⟨x,y,z1⟩:=p;obtain⟨x',y',Q⟩:=s;dsimp only at R S U V W X;have R:=(f.cell (p:=⟨g,o+k*3,none⟩) F).trans R;have S:=(f.cell (p:=⟨g,o+k*3+1,none⟩) F).trans S;have U:=(f.cell (p:=⟨g,o+k*3+2,none⟩) F).trans U;have V:=(f.cell (p:=⟨g2,o2+k*3,none⟩) r).trans V;have W:=(f.cell (p:=⟨g2,o2+k*3+1,none⟩) r).trans W
    have X:=(f.cell (p:=⟨g2,o2+k*3+2,none⟩) r).trans X
    by_cases h0:x=x'
    ·subst h0
     by_cases h1:y=y'
     ·subst h1
      by_cases h2:z1=Q
      ·subst h2
       have Z:ai (a.take (k+1)=b.take (k+1)):=ah (by rw[j,l,HT.o])
       clear H q j l u v;go_wp2
       go_quiet (fail)
       go_wp2;go_roundw
       case rel=>exact⟨k+1,by omega,by go_num,Z,aK f _⟩
       case measure=>simp[intOf];omega
      ·have f2:(z1==Q)=false:=by simpa using h2
       have h:ai (decide (a=b)=false):=by
        apply aM
        rintro rfl;have:=u.trans v.symm;injection this with e1 e2;injection e2 with e2 e3;omega
       clear H q j l u v;go_wp2
       go_quiet (fail)
       go_wp2;go_ret;exact⟨aj (by rw[G.o,h.o]),aK f _⟩
     ·have f1:(y==y')=false:=by simpa using h1
      have h:ai (decide (a=b)=false):=by
       apply aM
       rintro rfl;have:=u.trans v.symm;injection this with e1 e2;injection e2 with e2 e3;omega
      clear H q j l u v;go_wp2
      go_quiet (fail)
      go_wp2;go_ret;exact⟨aj (by rw[G.o,h.o]),aK f _⟩
    ·have f0':(x==x')=false:=by simpa using h0
     have h:ai (decide (a=b)=false):=by
      apply aM
      rintro rfl;have:=u.trans v.symm;injection this with e1 e2;injection e2 with e2 e3;omega
     clear H q j l u v;go_wp2
     go_quiet (fail)
     go_wp2;go_ret;exact⟨aj (by rw[G.o,h.o]),aK f _⟩
   ·have hE:ai (decide (a=b)=true):=by
     have:=HT.o;rw[eO (by rw[C.o];omega),eO (by rw[D.o];omega)]at this;exact aJ this
    go_wp2;go_ret;exact⟨aj (by rw[G.o,hE.o]),f⟩
 ·have f0:((n:Int) != (m:Int))=true:=by simp;omega
  have h:decide (a=b)=false:=by
   apply aM
   rintro rfl;exact M (by rw[← C.o,D.o])
  have Y:=ah h;clear h;go_enter Tryz.func130,Tryz.ntmps130;go_wp2;go_ret;exact⟨aj (by rw[G.o,Y.o]),bN⟩
set_option maxHeartbeats 400000 in
theorem uW (a b:List S3) (n m:Nat) (A B:Option Addr) (c d:Nat) (w:World) (p:a.length=n) (s:b.length=m) (u:n≤100000) (g:Rd w w.heap.size 3 A n c (aP a)) (l:Rd w w.heap.size 3 B m d (aP b)) (z:Bool) (i:z=(bA a&&decide (a=b))) :
  Calls Tryz.prog 78 #[.slice A n c,.slice B m d] w fun e w'=>e = .returned (.bool z)∧av w w':=by
 obtain⟨x,r⟩:∃ x,x=bA a:=⟨_,rfl⟩;rw[← r]at i;have j:=ah (jW a n A c w p u g x r.symm);have k:=fun W (h:av w W)=>ah (ru a b n m A B c d W p s (by omega) ((g.below h).more h.size) ((l.below h).more h.size) _ rfl);clear p s g l r
 cases x with
 | false=>
  rw[Bool.false_and]at i;subst i;go_enter Tryz.func78,Tryz.ntmps78;go_wp2_with fail;refine j.mono ?_;rintro e t ⟨rfl,f⟩;go_wp2;go_ret;exact⟨rfl,f⟩
 | true=>
  rw[Bool.true_and]at i;rw[← i]at k;clear i;go_enter Tryz.func78,Tryz.ntmps78;go_wp2_with fail;refine j.mono ?_;rintro e t ⟨rfl,f⟩;go_wp2_with fail;refine (k t f).o.mono ?_;rintro e w2 ⟨rfl,q⟩;go_wp2;go_ret;exact⟨rfl,f.trans (q.mono f.size)⟩
end Cx
namespace Cs
open Tr Cx Sp Rw Classical
noncomputable def iT (a b:K):Bool:=bB a&&decide (a=b)
theorem uX {t u:T} {a d:List S3} (h:bB (t,a)=true):iT (t,a) (u,d)=(lI t u&&decide (a=d)):=by
 unfold iT;rw[h,Bool.true_and]
 by_cases b:t=u
 ·rw[gJ b,Bool.true_and]
  by_cases c:a=d
  ·rw[aJ c,aJ (by rw[b,c])]
  ·rw[aM c,aM fun h=>c (congrArg Prod.snd h)]
 ·rw[eY b,Bool.false_and,aM fun h=>b (congrArg Prod.fst h)]
theorem qI (t u:T) (j y:List S3) (Ae Ak r F G H:Option Addr) (ne nk ce ck m f M mk J L n i:Nat) (w:World) (X:nodes t≤1000) (V:j.length=m) (Q:m≤1000) (Y:aF w w.heap.size t ⟨Ae,ne,ce⟩ ⟨Ak,nk,ck⟩) (U:Rd w w.heap.size 3 r m f (aP j)) (C:nodes u≤1000) (B:y.length=n) (_hnb:n≤1000) (D:aF w w.heap.size u ⟨F,M,J⟩ ⟨G,mk,L⟩) (A:Rd w w.heap.size 3 H n i (aP y)) :
  Calls Tryz.prog 36 #[.agg #[.slice Ae ne ce,.slice Ak nk ck,.slice r m f],.agg #[.slice F M J,.slice G mk L,.slice H n i]] w fun e w'=>e = .returned (.bool (iT (t,j) (u,y)))∧av w w':=by
 obtain⟨z,S⟩:∃ z,iT (t,j) (u,y)=z:=⟨_,rfl⟩;rw[S];have d:=ah S;clear S;have g:=ah (And.intro X (And.intro V (And.intro Y U)));clear X V Y U;have N:=ah (And.intro C (And.intro B (And.intro D A)));clear C B D A;obtain⟨W,p,q,HW,HP,HQ,a⟩:=zh w Ae Ak F G r H ne nk ce ck M mk J L m f n i;obtain⟨c0,c1,c2,c3,c4,c5,-⟩:=a.cj;have h:=ah (jg t j Ae Ak r ne nk ce ck m f W g.1 g.2.1 Q (aF.more a.below.size _ (aF.below g.2.2.1 a.below)) ((g.2.2.2.below a.below).more a.below.size));go_enter Tryz.func36,Tryz.ntmps36;go_wp2_with fail;rw[← HW.o,← HP.o]
 try rw[← HQ.o]
 cases k:bB (t,j)with
 | false=>
  rw[k]at h
  obtain rfl:z=false:=by rw[← d.o];unfold iT;rw[k];rfl
  refine h.mono ?_;rintro e Z ⟨rfl,b⟩;have a:=ah (a.later b);clear b c0 c1 c2 c3 c4 c5 k;go_wp2_with fail;go_ret;exact⟨by first | rfl | (rw[d.o];rfl) | rw[d.o],a.below⟩
 | true=>
  rw[k]at h;have l:=d.o;rw[uX k]at l;have d:=ah l;have v:ai (RK (t,j)):=bI.1 k;clear k l;refine h.mono ?_;rintro e Z ⟨rfl,b⟩;have a:=ah (a.later b);clear b c0 c1 c2 c3 c4 c5;obtain⟨c0,c1,c2,c3,c4,c5,-⟩:=a.cj;obtain⟨x,R⟩:∃ x,lI t u=x:=⟨_,rfl⟩;have s:=ah (uY t u Ae Ak ne nk ce ck F G M mk J L Z (LenT.few (by have:=g.1;omega)) (by have:=g.1;omega) (aF.more a.below.size _ (aF.below g.2.2.1 a.below)) (aF.more a.below.size _ (aF.below N.2.2.1 a.below)));have c:=d.o;rw[aO.2 v.o.tree,Bool.true_and,R]at s;rw[R]at c;have d:=ah c;clear R c;go_wp2_with fail;refine s.mono ?_;rintro e v2 ⟨rfl,b⟩;have a:=ah (a.later b);clear b c0 c1 c2 c3 c4 c5
  cases x with
  | false=>
   obtain rfl:z=false:=by rw[← d.o];rfl
   go_wp2_with fail;go_ret;exact⟨by first | rfl | (rw[d.o];rfl) | rw[d.o],a.below⟩
  | true=>
   have c:=d.o;rw[Bool.true_and]at c;obtain⟨c0,c1,c2,c3,c4,c5,-⟩:=a.cj;have O:=ah (uW j y m n r H f i v2 g.2.1 N.2.1 (by omega) ((g.2.2.2.below a.below).more a.below.size) ((N.2.2.2.below a.below).more a.below.size) z (by rw[fK v.o.ctx,Bool.true_and,← c];try congr));clear c;go_wp2_with fail;refine O.mono ?_;rintro e v3 ⟨rfl,b⟩;have a:=ah (a.later b);clear b c0 c1 c2 c3 c4 c5;go_wp2_with fail;go_ret;exact⟨by first | rfl | (rw[d.o];rfl) | rw[d.o],a.below⟩
end Cs
namespace Cs
open Tr Cx Sp Rw Classical
theorem Ad {a b:K} (h:RK a) (e:a=b):iT a b=true:=by
 unfold iT;rw[bI.2 h,aJ e];rfl
end Cs
namespace Cs
open Tr Cx Sp Rw Classical
theorem Bp (W:World) (base q:Nat) (g:W.heap.size=q) (d:base≤W.heap.size) {A:Option Addr} {n c:Nat} {l:List jw} (e:l.length=n) (h:Own W base 79 7 A n c (l.flatMap tY)) (x:jw) (f:n≤900000) :
  ∃ A' c' w',(Builtin.append_ #[65,65] 65 #[.slice A n c,.slice (some ⟨q,0,none⟩) 1 1]).run Tryz.prog (W.alloc (.cells (tY x).toArray 79)) = .ok (.slice A' (n+1) c') w'∧Own w' base 79 7 A' (n+1) c' ((l++[x]).flatMap tY)∧Below base W w':=by
 subst e;obtain⟨A',c',w',a,b,i⟩:=Rw.push AV wC Tryz.underlying65 EF rfl (by omega) (by omega) W base q g d _ l h.row x _ rfl f;rw[bP]at a b;exact⟨A',c',w',a,b,i⟩
end Cs
namespace Cs
open Tr Cx Sp Rw Classical
theorem DT (p:CP):qQ [p]=nodes p.k.1:=by simp[qQ]
theorem DN (p:CP):qP [p]=p.c.n:=by simp[qP]
theorem Kt {a:List CP} {p:CP} (h:p∈a):nodes p.k.1≤qQ a:=pX (f:=fun p:CP=>nodes p.k.1) h
theorem Kq {a:List CP} {p:CP} (h:p∈a):p.c.n≤qP a:=pX (f:=fun p:CP=>p.c.n) h
def LB (ps:List CP) (w:World) (e:Ending) (w':World):Prop:=∃ x:K,AllJ (ps.map CP.k) x∧nodes x.1≤qQ ps∧x.2.length≤qP ps∧wM x w e w'
theorem Cv:∀ (n:Nat) (y:List CP) (A:Option Addr) (c:Nat) (w:World),n≤1000→nA w A n c y→pJ y→Calls Tryz.prog 79 #[.slice A n c] w (LB y w):=by
 intro n
 induction n using Nat.strongRecOn with
 | ind n ih=>
  intro y A c w hn8 Y NU;have IH:ai (∀ m,m<n→∀ (y:List CP) (A:Option Addr) (c:Nat) (w:World),m≤1000→nA w A m c y→pJ y→Calls Tryz.prog 79 #[.slice A m c] w (LB y w)):=fun m hm=>ih m hm;clear ih;have B:=ah NU;have NY:w.heap.size≤w.heap.size:=bG;obtain⟨r,W,hr,hW,hb,-,-,-⟩:=rW w (.slice none 0 0) (.slice none 0 0) (.slice none 0 0) 42;have f:ai (Kept [(⟨r,0,none⟩,.slice none 0 0),(⟨r,1,none⟩,.slice none 0 0),(⟨r,2,none⟩,.slice none 0 0)] w W):=(((Kept.a_ hb).af (by rw[hW,hr];go_simp)).af (by rw[hW,hr];go_simp)).af (by rw[hW,hr];go_simp);have d:=p_ hr hW;have l:=ah (Y.later hb)
  have NW:w.heap.size≤r:=by omega
  have Hr:=ah hr;have HW:=ah hW;clear Y NU NY hr hW hb
  by_cases h0:n=0
  ·subst h0
   obtain rfl:y=[]:=jE.1 l.len;go_enter Tryz.func79,Tryz.ntmps79;go_wp2_with fail;rw[← Hr.o,← HW.o];obtain⟨z0,z1,z2,-⟩:=f.cj;refine bodyPost_ret (v:=.agg #[.slice none 0 0,.slice none 0 0,.slice none 0 0]) (by simp[results,Tryz.results79,go_sem,z0,z1,z2]) rfl ⟨bH,AllJ.nil,by show nodes none_≤_;rw[nodes_none];omega,Nat.zero_le _,none,0,0,none,0,0,none,0,0,rfl,eH.no _ _,f.below⟩
  by_cases h1:n=1
  ·subst h1
   obtain⟨p,rfl⟩:∃ p,y=[p]:=List.length_eq_one_iff.1 l.len;have hp:=B.right p (by simp);have D:=B.few;rw[DT,DN]at D;obtain⟨⟨t,cs⟩,⟨Ae,ne,ce⟩,⟨Ak,nk,ck⟩,⟨Ca,na,NA⟩⟩:=p;have J:=l.each _ (eX.2 rfl);obtain⟨b,o,rfl,hb,hc⟩:=l.at_ (by omega);obtain⟨x0,L,M⟩:=hc 0 (by simp);dsimp only[List.getElem_cons_zero]at x0 L M;rw[Nat.zero_mul,Nat.add_zero]at x0 L M;have hq:nodes t≤1000:=D.1;have NT:na≤1000:=D.2;have Oa:=ah (u_ none_ t [] cs none none none Ae Ak Ca 0 0 0 0 0 0 ne nk ce ck na NA W (by rw[nodes_none];omega) rfl (by omega) (vB.zero _).tree (vB.zero _).ctx (by omega) J.len (by omega) J.tree J.ctx jl.tree hp.tree jl.ctx hp.ctx);have HP:=ah hp;have HQ:=ah (And.intro hq (And.intro NT J.len))
   clear hp J hc hq NT D;rw[HW.o]at x0 L M;go_enter Tryz.func79,Tryz.ntmps79;go_wp2_with fail;rw[← Hr.o,← HW.o];refine Oa.mono ?_;rintro e v4 ⟨x,hj,_,O,rn,Q,Rk,U,rd,N,V,R,rfl,u,g⟩;obtain rfl:x=(t,cs):=join_none HP hj;have NH:r<W.heap.size:=d.1;have N_:w.heap.size≤W.heap.size:=f.below.size;have N9:=ah u;obtain⟨f,d⟩:=gI g f d;clear hj u g x0 L M;obtain⟨z0,z1,z2,-⟩:=f.cj;have m0:=d.2 0;have m1:=d.2 1;have m2:=d.2 2;obtain⟨W9,s⟩:∃ W,W=((v4.setCell ⟨r,0,none⟩ (.slice O rn Q)).setCell ⟨r,1,none⟩ (.slice Rk U rd)).setCell ⟨r,2,none⟩ (.slice N V R):=⟨_,rfl⟩;have Z:=jF s f.below NW
   have G:ai (eH W9 w.heap.size (t,cs) O rn Q Rk U rd N V R):=by
    unfold ai;rw[s];exact (N9.gT NH _ _ _).mono N_
   obtain⟨l0,l1,l2⟩:=kH s z0 z1 z2;have Oc:=ah s;clear s;go_wp2_with fail;rw[← Oc.o];refine bodyPost_ret (v:=.agg #[.slice O rn Q,.slice Rk U rd,.slice N V R]) (by simp[results,Tryz.results79,go_sem,l0,l1,l2]) rfl ⟨(t,cs),AllJ.one HP,by rw[DT];exact bG,by rw[DN];exact Nat.le_of_eq HQ.2.2,O,rn,Q,Rk,U,rd,N,V,R,rfl,G,Z⟩
  obtain⟨i,NE⟩:∃ h,h=n / 2:=⟨_,rfl⟩
  have f1:((n:Int)==0)=false:=by rw[gP];omega
  have f2:((n:Int)==1)=false:=by rw[gP];omega
  have f3:Int.tdiv (n:Int) 2=(i:Int):=by rw[NE,Int.tdiv_eq_ediv_of_nonneg (by omega)];omega
  have f4:((n:Int) / 2)=(i:Int):=by rw[NE];omega
  have f5:IntKind.i64.wrap (i:Int)=(i:Int):=by rw[iN];omega
  obtain⟨m9,NG⟩:∃ m,m=n-i:=⟨_,rfl⟩
  have g1:1≤i:=by omega
  have g2:1≤m9:=by omega
  have g3:i<n:=by omega
  have g4:m9<n:=by omega
  obtain⟨A2,NC⟩:∃ q,q=(if c=i then A else A.map (·.add (i*3))):=⟨_,rfl⟩
  have hcap:n≤c:=l.row.cap
  have hcut1:∀ W,(Instr.slice 118 (.slice A n c) none (some (.int .i64 (i:Nat))) none).run Tryz.prog W = .ok (.slice A i c) W:=fun W=>by
   obtain⟨i0,NF,Og,NI,Oh⟩:=dO J6;exact xW (P:=Tryz.prog) 118 42 3 Tryz.underlying118 NF NI A n c i (by omega) W
  have hcut2:∀ W,(Instr.slice 118 (.slice A n c) (some (.int .i64 (i:Nat))) none none).run Tryz.prog W = .ok (.slice A2 m9 (c-i)) W:=fun W=>by
   obtain⟨i0,NF,Og,NI,Oh⟩:=dO J6;rw[NC,NG];exact dV (P:=Tryz.prog) 118 42 3 Tryz.underlying118 NF NI A n c i (by omega) W
  have NZ:=ah NC;have NJ:=ah NG;clear NC NG NE h0 h1;go_enter Tryz.func79,Tryz.ntmps79;go_wp2_with fail;rw[← Hr.o,← HW.o];refine Rg (S:=fun _=>True) (by trivial) (fun hHeld=>?_);obtain⟨w1,NV,g⟩:=mW W;obtain⟨l,f,d⟩:=kX g l f d;rw[← NV];clear NV g;refine T4 0 19 1 20 2 21 4 23 ?_;refine T2 5 24 6 25 ?_;refine Tc 3 (fun K H=>?_);go_simp;(go_at_call 79;refine (IH.o i (by omega) (y.take i) A c w1 (by omega) (l.to (by omega)) (B.take i)).mono ?_);rintro e v2 ⟨L,NM,NR,NP,Ae,ne,ce,Ak,nk,ck,Ca,na,NA,rfl,u,g⟩;have Ny:=ah NM;have N7:=ah (And.intro NR NP);have C:=ah u;obtain⟨l,f,d⟩:=kX g l f d
  have Ob:ai (nA v2 A2 m9 (c-i) (y.drop i)):=by
   have h:=l.from (j:=i) (by omega);rw[← NZ.o,← NJ.o]at h;exact h
  clear NM NR NP u g;refine Th H ?_ (fun a=>?_)
  ·trivial
  clear H K hHeld;have hHeld:=a;clear a;refine Tc 7 (fun K H=>?_);go_simp;(go_at_call 79;refine (IH.o m9 (by omega) (y.drop i) A2 (c-i) v2 (by omega) Ob (B.drop i)).mono ?_);rintro e v3 ⟨M,NN,NS,NQ,Be,me,de,Bk,mk,dk,Cb,nb,Oe,rfl,u,g⟩;have Nz:=ah NN;have N8:=ah (And.intro NS NQ);have F:=ah u;have C:=ah (eH.later C g);obtain⟨f,d⟩:=gI g f d;clear NN NS NQ u g;refine Th H ?_ (fun a=>?_)
  ·trivial
  clear H K hHeld;have hHeld:=a;clear a;refine Tc 8 (fun K H=>?_);go_simp;(go_at_call 71;refine (u_ L.1 M.1 L.2 M.2 Ae Ak Ca Be Bk Cb ne nk ce ck na NA me mk de dk nb Oe v3 (by have h1:=N7.1;have h3:=(B.take i).few;omega) C.len (by have h1:=N7.2;have h2:=C.len;have h3:=(B.take i).few;omega) C.M_ C.ctx.rd (by have h1:=N8.1;have h3:=(B.drop i).few;omega) F.len (by have h1:=N8.2;have h2:=F.len;have h3:=(B.drop i).few;omega) F.M_ F.ctx.rd Ny.right.tree Nz.right.tree Ny.right.ctx Nz.right.ctx).mono ?_);rintro e v4 ⟨x,hj,hl,O,rn,Q,Rk,U,rd,N,V,R,rfl,u,g⟩;obtain⟨B1,X⟩:∃ z,z=v3.heap.size:=⟨_,rfl⟩
  have NH:r<B1:=by rw[X];exact d.1
  have N_:w.heap.size≤B1:=by rw[X];exact f.below.size
  have N9:ai (eH v4 B1 x O rn Q Rk U rd N V R):=ah (by rw[X];exact u)
  have Od:ai (AllJ (y.map CP.k) x):=by
   have h:=Ny.app Nz hj;rw[← mD,List.take_append_drop]at h;exact h
  have NK:ai (nodes x.1≤qQ y∧x.2.length≤qP y):=by
   have h7:=yx y i;have h8:=yu y i;have h1:=N7.o;have h2:=N8.o;have h3:=mI 5 L.2 M.2 L.1 M.1;have h4:=C.len;have h5:=F.len;have h6:=NJ.o;refine⟨?_,by omega⟩;rw[hj.tree];show nodes (bf 5 L.2 M.2 L.1 M.1)≤_;omega
  obtain⟨f,d⟩:=gI g f d;clear hj hl u g X;obtain⟨z0,z1,z2,-⟩:=f.cj;have m0:=d.2 0;have m1:=d.2 1;have m2:=d.2 2;refine Th H ?_ (fun a=>?_)
  ·trivial
  clear H K hHeld;have hHeld:=a;clear a;refine Tc 9 (fun K H=>?_);go_simp;refine Th H ?_ (fun a=>?_)
  ·trivial
  clear H K hHeld;have hHeld:=a;clear a;refine Td ?_;clear hHeld;obtain⟨W9,s⟩:∃ W,W=((v4.setCell ⟨r,0,none⟩ (.slice O rn Q)).setCell ⟨r,1,none⟩ (.slice Rk U rd)).setCell ⟨r,2,none⟩ (.slice N V R):=⟨_,rfl⟩;have Z:=jF s f.below NW
  have G:ai (eH W9 w.heap.size x O rn Q Rk U rd N V R):=by
   unfold ai;rw[s];exact (N9.gT NH _ _ _).mono N_
  obtain⟨l0,l1,l2⟩:=kH s z0 z1 z2;clear z0 z1 z2 m0 m1 m2;rw[← s];clear s;go_wp2_with fail;refine bodyPost_ret (v:=.agg #[.slice O rn Q,.slice Rk U rd,.slice N V R]) (by simp[results,Tryz.results79,go_sem,l0,l1,l2]) rfl ⟨x,Od,NK.1,NK.2,O,rn,Q,Rk,U,rd,N,V,R,rfl,G,Z⟩
def GD (ps:List CP) (N M:Nat) (w:World) (e:Ending) (w':World):Prop:=∃ (x:K) (z:Int),((∀ p∈ps,RK p.k)→z=0∧AllJ (ps.map CP.k) x∧nodes x.1≤N∧x.2.length≤M)∧((¬ ∀ p∈ps,RK p.k)→z=1∧x=bH)∧Av x z w e w'
theorem sI (n:Nat) (l:List CP) (A:Option Addr) (c:Nat) (w:World) (hn8:n≤1000) (C:nA w A n c l) (N_:qQ l≤1000∧qP l≤1000):Calls Tryz.prog 37 #[.slice A n c] w (GD l (qQ l) (qP l) w):=by
 have L:=ah N_;obtain⟨r,W,V,U,hb,-,-,-⟩:=rW w (.slice none 0 0) (.slice none 0 0) (.slice none 0 0) 42;have d:ai (Kept [(⟨r,0,none⟩,.slice none 0 0),(⟨r,1,none⟩,.slice none 0 0),(⟨r,2,none⟩,.slice none 0 0)] w W):=(((Kept.a_ hb).af (by rw[U,V];go_simp)).af (by rw[U,V];go_simp)).af (by rw[U,V];go_simp);have a:=p_ V U;have f:=ah (C.later hb)
 have NA:w.heap.size≤r:=by omega
 have Hr:=ah V;have HW:=ah U;have Y:ai (l.length=n):=C.len;clear C N_ V U hb;go_enter Tryz.func37,Tryz.ntmps37;go_wp2_with fail;rw[← Hr.o,← HW.o]
 go_loopw [8] (fun i wr=>∃ (k:Nat),k≤n∧i = .int .i64 k∧ai (∀ (j:Nat) (h:j<l.length),j<k→bB l[j].k=true)∧ai (Kept [(⟨r,0,none⟩,.slice none 0 0),(⟨r,1,none⟩,.slice none 0 0),(⟨r,2,none⟩,.slice none 0 0)] w wr)∧ai (aA r wr)∧ai (nA wr A n c l)) (fun i _=>n-(intOf i).toNat)
 case atStart=>exact⟨0,by omega,by first | rfl | trivial,fun j _ h=>absurd h (by omega),d,a,f⟩
 case round=>
  clear d a f;obtain⟨k,hk,rfl,HI,d,a,f⟩:=hrel
  by_cases NI:k<n
  ·have R:k<l.length:=by rw[Y.o];exact NI
   obtain⟨b,o,rfl,hb,hc⟩:=f.at_ (by omega);obtain⟨c0,c1,c2⟩:=hc k R;have S:=f.each _ (bT R);have z:l[k]∈l:=bT R;obtain⟨p,hp⟩:∃ p,p=l[k]:=⟨_,rfl⟩;rw[← hp]at c0 c1 c2 S z;have HP:=ah hp;have HM:=ah z;obtain⟨⟨t,cs⟩,⟨Ae,ne,ce⟩,⟨Ak,nk,ck⟩,⟨Ca,na,Ny⟩⟩:=p;dsimp only at c0 c1 c2;obtain⟨W1,N⟩:∃ W,W=wr.alloc (.cells #[.slice Ae ne ce,.slice Ak nk ck,.slice Ca na Ny] 42):=⟨_,rfl⟩
   have u:av wr W1:=by rw[N];exact Dt.ay _ _ _
   have H:=ah (f.later u);have G:=ah (d.later u);have F:=ah (a.later u);have m:=S.later u;obtain⟨y,hy⟩:∃ y,bB (t,cs)=y:=⟨_,rfl⟩;have O:=And.intro (Kt HM) (Kq HM);have hq:nodes t≤1000:=aN O.1 L.1;have NJ:na≤1000:=aN O.2 L.2;have B:=jg t cs Ae Ak Ca ne nk ce ck na Ny W1 (by omega) m.len (by omega) m.tree m.ctx;rw[hy]at B;have Z:=ah B;have HY:=ah hy;have NG:=ah N;clear hc S hp z N u m O hq NJ B hy d a f;go_wp2_with fail;rw[← NG.o];refine Z.mono ?_;rintro e w2 ⟨rfl,D⟩;have f:=ah (H.later D);have d:=ah (G.later D);have a:=ah (F.later D);clear D H G F c0 c1 c2
   cases y with
   | false=>
    obtain⟨z0,z1,z2,-⟩:=d.cj;have m0:=a.2 0;have m1:=a.2 1;have m2:=a.2 2;obtain⟨W9,g⟩:∃ W,W=((w2.setCell ⟨r,0,none⟩ (.slice none 0 0)).setCell ⟨r,1,none⟩ (.slice none 0 0)).setCell ⟨r,2,none⟩ (.slice none 0 0):=⟨_,rfl⟩;have J:=jF g d.below NA;have q:ai (eH W9 w.heap.size bH none 0 0 none 0 0 none 0 0):=eH.no _ _;obtain⟨l0,l1,l2⟩:=kH g z0 z1 z2;have M:=ah g;clear g;go_wp2_with fail;rw[← M.o];refine bodyPost_ret (v:=.tuple #[.agg #[.slice none 0 0,.slice none 0 0,.slice none 0 0],.int .i64 1]) (by simp[results,Tryz.results37,go_sem,l0,l1,l2]) rfl ⟨bH,1,fun h=>absurd (h _ HM) (fun h2=>by have h3:=bI.2 h2;rw[HY.o]at h3;cases h3),fun _=>⟨rfl,rfl⟩,none,0,0,none,0,0,none,0,0,rfl,q,J⟩
   | true=>
    have NC:ai (∀ (j:Nat) (h:j<l.length),j<k+1→bB l[j].k=true):=fun j Q hl=>by
     by_cases e:j<k
     ·exact HI.o j Q e
     ·obtain rfl:j=k:=by omega
      rw[← HP.o];exact HY.o
    go_wp2_with fail;go_roundw
    case rel=>exact⟨k+1,by omega,by go_num,NC,d,a,f⟩
    case measure=>simp[intOf];omega
  ·obtain rfl:k=n:=by omega
   have s:∀ p∈l,RK p.k:=fun p hp=>by
    obtain⟨j,Q,rfl⟩:=qz hp;exact bI.1 (HI.o j Q (by rw[← Y.o];exact Q))
   have NE:=ah (Cv k l A c wr (by omega) f ⟨s,L⟩);have X:=ah s;clear s;go_wp2_with fail;refine NE.mono ?_;rintro e v4 ⟨x,Q,N8,N7,Re,rn,rc,Rk,rm,rd,Rc,rq,re,rfl,N9,Nz⟩;have HX:=ah (And.intro Q (And.intro N8 N7));have NK:r<wr.heap.size:=a.1;have NH:w.heap.size≤wr.heap.size:=d.below.size;have NF:=ah N9;obtain⟨d,a⟩:=gI Nz d a;clear Q N8 N7 N9 Nz;obtain⟨z0,z1,z2,-⟩:=d.cj;have m0:=a.2 0;have m1:=a.2 1;have m2:=a.2 2;obtain⟨W9,g⟩:∃ W,W=((v4.setCell ⟨r,0,none⟩ (.slice Re rn rc)).setCell ⟨r,1,none⟩ (.slice Rk rm rd)).setCell ⟨r,2,none⟩ (.slice Rc rq re):=⟨_,rfl⟩;have J:=jF g d.below NA
   have q:ai (eH W9 w.heap.size x Re rn rc Rk rm rd Rc rq re):=by
    unfold ai;rw[g];exact (NF.gT NK _ _ _).mono NH
   obtain⟨l0,l1,l2⟩:=kH g z0 z1 z2;have M:=ah g;clear g;go_wp2_with fail;rw[← M.o];refine bodyPost_ret (v:=.tuple #[.agg #[.slice Re rn rc,.slice Rk rm rd,.slice Rc rq re],.int .i64 0]) (by simp[results,Tryz.results37,go_sem,l0,l1,l2]) rfl ⟨x,0,fun _=>⟨rfl,HX⟩,fun h=>absurd X.o h,Re,rn,rc,Rk,rm,rd,Rc,rq,re,rfl,q,J⟩
end Cs
namespace Cs
open Tr Cx Sp Rw Classical
theorem kF {α:Type} (f:α→Bool) {l:List α} {k:Nat} (h:k<l.length):(l.take (k+1)).filter f=(l.take k).filter f++if f l[k]=true then [l[k]]else []:=by
 rw[dZ h,List.filter_append,List.filter_cons];rfl
theorem lV (l:List jw) (n:Nat) (A:Option Addr) (c:Nat) (u:List S3) (m:Nat) (B:Option Addr) (d:Nat) (w:World) (hn:n≤1000) (hl:pE w w.heap.size A n c l) (Nz:u.length=m) (Y:m≤100000) (Ny:Rd w w.heap.size 3 B m d (aP u)) (N7:bA u=true) :
  Calls Tryz.prog 33 #[.slice A n c,.slice B m d] w fun e w'=>∃ (A':Option Addr) (q c':Nat),e = .returned (.slice A' q c')∧ai (pE w' w'.heap.size A' q c' (l.filter fun x=>fH u x.ev.d.1 x.ev.d.2))∧ai (q≤n)∧av w w':=by
 have HL:=ah hl;have HU:=ah (And.intro Nz (And.intro Y N7));have N_:=ah Ny;obtain⟨f,hf⟩:∃ f:jw→Bool,f=fun x=>fH u x.ev.d.1 x.ev.d.2:=⟨_,rfl⟩;rw[← hf]
 have HF:ai (∀ x:jw,fH u x.ev.d.1 x.ev.d.2=f x):=fun x=>by rw[hf]
 clear hl Nz Y Ny N7 hf;go_enter Tryz.func33,Tryz.ntmps33;go_wp2_with fail
 go_loopw [5,9] (fun v i wr=>∃ (k q:Nat) (C:Option Addr) (G:Nat),k≤n∧q≤k∧i = .int .i64 k∧v = .slice C q G∧ai (((l.take k).filter f).length=q)∧ai (Own wr w.heap.size 79 7 C q G (((l.take k).filter f).flatMap tY))∧ai (av w wr)) (fun _ i _=>n-(intOf i).toNat)
 case atStart=>exact⟨0,0,none,0,by omega,by omega,rfl,rfl,rfl,⟨iy _ _ _ _,by simp⟩,bN⟩
 case round=>
  obtain⟨k,q,C,G,hk,hq,rfl,rfl,t,HO,a⟩:=hrel
  by_cases NC:k<n
  ·have NA:=ah ((N_.below a).more a.size)
   have R:k<l.length:=by rw[HL.o.len];exact NC
   obtain⟨b,o,rfl,h,hc⟩:=HL.at_ (by omega);obtain⟨H,J,L,M,N,O,Q⟩:=hc k R;have H:=(a.cell (p:=⟨b,o+k*7,none⟩) h).trans H;have J:=(a.cell (p:=⟨b,o+k*7+1,none⟩) h).trans J;have L:=(a.cell (p:=⟨b,o+k*7+2,none⟩) h).trans L;have M:=(a.cell (p:=⟨b,o+k*7+3,none⟩) h).trans M;have N:=(a.cell (p:=⟨b,o+k*7+4,none⟩) h).trans N;have O:=(a.cell (p:=⟨b,o+k*7+5,none⟩) h).trans O;have Q:=(a.cell (p:=⟨b,o+k*7+6,none⟩) h).trans Q;obtain⟨x,U⟩:∃ x,x=l[k]:=⟨_,rfl⟩
   have Z:x∈l:=by rw[U];exact bT R
   rw[← U]at H J L M N O Q;have j:=kF f R;rw[← U]at j;obtain⟨z,hz⟩:∃ z,f x=z:=⟨_,rfl⟩;rw[hz]at j
   have S:fH u x.ev.d.1 x.ev.d.2=z:=by rw[HF.o,hz]
   obtain⟨y,hy⟩:∃ y,y=x:=⟨_,rfl⟩;rw[← hy]at j;have r:=ah j;have HY:=ah hy;clear hc U j hz h Z hy;obtain⟨⟨⟨d1,d2⟩,⟨xp,xa,xs,xv⟩,sn⟩,⟨pA,pn,pc⟩,⟨qA,qn,qc⟩⟩:=x;dsimp only at H J L M N O Q S;have HZ:=ah S;clear S;go_wp2_with fail;refine (iK u m B d d1 d2 wr HU.1 HU.2.1 NA HU.2.2 z HZ).mono ?_;rintro e w2 ⟨rfl,g⟩;have X:=a.trans (g.mono a.size);have V:=ah (aG HO g);have H:=(g.cell (p:=⟨b,o+k*7,none⟩) (aL _ _ H)).trans H;have J:=(g.cell (p:=⟨b,o+k*7+1,none⟩) (aL _ _ J)).trans J;have L:=(g.cell (p:=⟨b,o+k*7+2,none⟩) (aL _ _ L)).trans L;have M:=(g.cell (p:=⟨b,o+k*7+3,none⟩) (aL _ _ M)).trans M
   have N:=(g.cell (p:=⟨b,o+k*7+4,none⟩) (aL _ _ N)).trans N;have O:=(g.cell (p:=⟨b,o+k*7+5,none⟩) (aL _ _ O)).trans O;have Q:=(g.cell (p:=⟨b,o+k*7+6,none⟩) (aL _ _ Q)).trans Q;have D:=ah X;clear g X
   cases z with
   | false=>
    have F:ai (Own w2 w.heap.size 79 7 C q G (((l.take (k+1)).filter f).flatMap tY)):=by
     unfold ai;rw[r.o,if_neg (by simp),kR];exact V.o
    have s:ai (((l.take (k+1)).filter f).length=q):=by
     unfold ai;rw[r.o,if_neg (by simp),kR];exact t.o
    go_wp2_with fail;go_roundw
    case rel=>exact⟨k+1,q,C,G,by omega,by omega,by go_num,rfl,s,F,D⟩
    case measure=>simp[intOf];omega
   | true=>
    obtain⟨A6,c6,w6,r1,r2,r3⟩:=Bp w2 w.heap.size w2.heap.size rfl D.size t V y (by omega)
    have s:ai (((l.take (k+1)).filter f).length=q+1):=by
     unfold ai;rw[r.o,if_pos rfl,bP,t.o];rfl
    have F:ai (Own w6 w.heap.size 79 7 A6 (q+1) c6 (((l.take (k+1)).filter f).flatMap tY)):=by
     unfold ai;rw[r.o,if_pos rfl];exact r2
    have N8:=ah (D.trans r3);rw[HY.o]at r1;have W:=ah r1;clear r1 r2 r3;go_wp2_with (at_builtin;refine Lib.wpList_append_run _ rfl _ _ _ _ rfl _ _ rfl rfl _ _ W ?_);go_roundw
    case rel=>exact⟨k+1,q+1,A6,c6,by omega,by omega,by go_num,rfl,s,F,N8⟩
    case measure=>simp[intOf];omega
  ·obtain rfl:k=n:=by omega
   have e9:l.take k=l:=eO (by rw[HL.o.len];exact bG)
   have N9:ai (pE wr wr.heap.size C q G (l.filter f)):=by
    have h1:=HO.o;have h2:=t.o;rw[e9]at h1 h2;exact⟨h2,h1.rd,fun x U=>((HL.each x ((qR.1 U).1)).below a).more a.size⟩
   clear e9;go_wp2_with fail;go_ret;exact⟨C,q,G,rfl,N9,hq,a⟩
end Cs
end
set_option maxRecDepth 100000
set_option maxHeartbeats 4000000
section
open ChangeShapes WideShapes ChangeAt RowKit
namespace Cs
open Tr Cx Sp Rw Classical
theorem Cc:∀ a:List CP,(a.flatMap AO).length=a.length*3
 | []=>rfl
 | p::a=>by rw[tX,bP,Cc a,o8,lY];omega
theorem G5 (w:World) (b:List CP) (c:Array Value) (n:Nat) (d:b.length=n) (a:c.toList=b.flatMap AO):Rd (w.alloc (.cells c 42)) (w.heap.size+1) 3 (some ⟨w.heap.size,0,none⟩) n n (b.flatMap AO):=
 ⟨by rw[Cc,d],bG,fun u hu=>by
  obtain⟨p,_,h⟩:=ol.1 hu
  exact AP p u h,fun _=>⟨_,_,rfl,by omega,fun j u hu=>by
  rw[Nat.zero_add,cell_of_row _ _ j _ _ (0,0) (heap_alloc_new _ _),← Array.getElem?_toList,a]
  exact hu⟩⟩
theorem AllJ.Nv {a:K} {l:List K} {x y:K} (h:AllJ (a::l) x) (b:AllJ (l++[a]) y):x=y:=E8 h.right b.right fun p q=>by
 rw[h.st,b.st,oO,vk];exact Gq (Ko a p q) (DF l p q)
end Cs
end
end Go.Proofs.YtgeafpaognhokaaGreat
