/- What is known: which kids stay. -/
import Derived.Test.YtgeafpaognhokaaGreatG00
import Derived.Test.YtgeafpaognhokaaGreatCauMrgE
import Derived.Test.YtgeafpaognhokaaGreatG10
namespace Go.Proofs.YtgeafpaognhokaaGreat
open ChangeShapes WideShapes ChangeAt RowKit
namespace Cs
open Tr Cx Sp Rw
theorem Mx (g:Nat) (x y z:ByteArray) (c:(if x.size=0 then y else x)=z) (w:World) (h0:w.cell? ⟨g,0,none⟩=some (.string x)) (h1:w.cell? ⟨g,1,none⟩=some (.string y)) :
  Calls Tryz.prog 186 #[.slice (some ⟨g,0,none⟩) 2 2] w fun e w'=>e = .returned (.string z)∧w=w':=by
 have j:∀ b:ByteArray,b.size=0→b=⟨#[]⟩:=fun b h=>by
  obtain⟨⟨l⟩⟩:=b;have n:l.length=0:=h;rw[jE.1 n]
 by_cases f:x.size=0
 ·rw[if_pos f]at c
  subst c;obtain rfl:=j x f;have fe:=mJ;have fe2:(⟨#[]⟩:ByteArray).toList=[]:=List.isEmpty_iff.1 mJ
  by_cases r:y.size=0
  ·obtain rfl:=j y r
   go_enter Tryz.func186,Tryz.ntmps186;go_wp2
   go_loop [8] (fun i=>∃ k:Nat,k≤2∧i = .int .i64 k) (fun i=>2-(intOf i).toNat)
   case atStart=>exact⟨0,by omega,rfl⟩
   case round=>
    obtain⟨k,q,rfl⟩:=hrel
    rcases (by omega:k=0∨k=1∨k=2)with rfl | rfl | rfl
    ·go_wp2
     go_round
     case rel=>exact⟨1,by omega,rfl⟩
     case measure=>simp[intOf]
    ·go_wp2
     go_round
     case rel=>exact⟨2,by omega,rfl⟩
     case measure=>simp[intOf]
    ·go_wp2
     go_ret;exact⟨rfl,rfl⟩
  ·have a:=mQ (k:=y) (by omega)
   have d:¬y.toList=[]:=fun h=>by rw[h]at a;cases a
   have m:(y.toList != ([]:List UInt8))=true:=by simpa using d
   go_enter Tryz.func186,Tryz.ntmps186;go_wp2
   go_loop [8] (fun i=>∃ k:Nat,k≤1∧i = .int .i64 k) (fun i=>2-(intOf i).toNat)
   case atStart=>exact⟨0,by omega,rfl⟩
   case round=>
    obtain⟨k,q,rfl⟩:=hrel
    rcases (by omega:k=0∨k=1)with rfl | rfl
    ·go_wp2
     go_round
     case rel=>exact⟨1,by omega,rfl⟩
     case measure=>simp[intOf]
    ·go_wp2
     go_ret;exact⟨rfl,rfl⟩
 ·rw[if_neg f]at c
  subst c;have a:=mQ (k:=x) (by omega)
  have d:¬x.toList=[]:=fun h=>by rw[h]at a;cases a
  have m:(x.toList != ([]:List UInt8))=true:=by simpa using d
  go_enter Tryz.func186,Tryz.ntmps186;go_wp2
  go_loop [8] (fun i=>i = .int .i64 0) (fun i=>2-(intOf i).toNat)
  case atStart=>rfl
  case round=>
   subst hrel;go_wp2;go_ret;exact⟨rfl,rfl⟩
theorem MI (w:World) (f g:ByteArray) (Ae Ak a b:Option Addr) (ne nk ce ck e mk c d:Nat):∃ (W:World) (p y r:Nat),ai (W=((w.alloc (.cells #[.string f,.slice Ae ne ce,.slice Ak nk ck] 134)).alloc (.cells #[.string g,.slice a e c,.slice b mk d] 134)).alloc (.cells #[.string ⟨#[]⟩,.slice none 0 0,.slice none 0 0] 134))∧ai (p=w.heap.size)∧ai (y=p+1)∧ai (r=p+1+1)∧ai (Kept [(⟨p,0,none⟩,.string f),(⟨p,1,none⟩,.slice Ae ne ce),(⟨p,2,none⟩,.slice Ak nk ck),(⟨y,0,none⟩,.string g),(⟨y,1,none⟩,.slice a e c),(⟨y,2,none⟩,.slice b mk d),(⟨r,0,none⟩,.string ⟨#[]⟩),(⟨r,1,none⟩,.slice none 0 0),(⟨r,2,none⟩,.slice none 0 0)] w W)∧ai (aA r W):=by
 refine⟨_,_,_,_,rfl,rfl,rfl,rfl,?_,⟨by simp,fun j=>by go_simp⟩⟩;have h:=Kept.a_ (gG w #[.string f,.slice Ae ne ce,.slice Ak nk ck] #[.string g,.slice a e c,.slice b mk d] #[.string ⟨#[]⟩,.slice none 0 0,.slice none 0 0] 134 134 134)
 refine ((((((((h.af ?_).af ?_).af ?_).af ?_).af ?_).af ?_).af ?_).af ?_).af ?_ <;> go_simp
def ug (key:ByteArray) (t:T) (w:World) (e:Ending) (w':World):Prop:=∃ Ae ne ce Ak nk ck,e = .returned (.tuple #[.agg #[.string key,.slice Ae ne ce,.slice Ak nk ck],.bool (!decide (ne=0∧nk=0))])∧aW w' (fun b=>w.heap.size≤b) t ⟨Ae,ne,ce⟩ ⟨Ak,nk,ck⟩∧av w w'
section
variable {l:List (Addr×Value)} {w0 W w':World} {p:Nat}
theorem _root_.Go.Proofs.YtgeafpaognhokaaGreat.Kept.past3 (K:Kept l w0 W) (c:w0.heap.size≤p) (b:∀ x∈l,x.1.block≠p) (v0 v1 v2:Value):Kept l w0 (((W.setCell ⟨p,0,none⟩ v0).setCell ⟨p,1,none⟩ v1).setCell ⟨p,2,none⟩ v2):=
 ((K.set (a:=⟨p,0,none⟩) c b v0).set (a:=⟨p,1,none⟩) c b v1).set (a:=⟨p,2,none⟩) c b v2
theorem _root_.Go.Proofs.YtgeafpaognhokaaGreat.Kept.gQ (K:Kept l w0 W) (e:w0.heap.size≤p) (d:∀ x∈l,x.1.block≠p) (a:∃ u,W.cell? ⟨p,0,none⟩=some u) (b:∃ u,W.cell? ⟨p,1,none⟩=some u) (c:∃ u,W.cell? ⟨p,2,none⟩=some u) (v0 v1 v2:Value):Kept ((⟨p,0,none⟩,v0)::(⟨p,1,none⟩,v1)::(⟨p,2,none⟩,v2)::l) w0 (((W.setCell ⟨p,0,none⟩ v0).setCell ⟨p,1,none⟩ v1).setCell ⟨p,2,none⟩ v2):=by
 obtain⟨u0,a⟩:=a;obtain⟨u1,b⟩:=b;obtain⟨u2,c⟩:=c
 refine (((K.past3 e d v0 v1 v2).af ?_).af ?_).af ?_ <;> go_simp
end
set_option maxRecDepth 100000 in
set_option maxHeartbeats 4000000 in
theorem nY (xk yk:ByteArray) (Ae Ak Be Bk:Option Addr) (ne nk ce ck me mk de dk:Nat) (Ca Cb:Option Addr) (na Ny nb Nz ba bb:Nat) (w:World) (NF:w.cell? ⟨ba,2,none⟩=some (.slice Ca na Ny)) (NG:w.cell? ⟨bb,2,none⟩=some (.slice Cb nb Nz)) (t:T) (key:ByteArray) (NA:(if xk.size=0 then yk else xk)=key)
  (ht:∀ W,av w W→Calls Tryz.prog 124 #[.agg #[.slice Ae ne ce,.slice Ak nk ck,.slice Ca na Ny],.agg #[.slice Be me de,.slice Bk mk dk,.slice Cb nb Nz]] W (uh t W)) :
  Calls Tryz.prog 185 #[.agg #[.string xk,.slice Ae ne ce,.slice Ak nk ck],.agg #[.string yk,.slice Be me de,.slice Bk mk dk],.pointer (some ⟨ba,0,none⟩),.pointer (some ⟨bb,0,none⟩)] w (ug key t w):=by
 have HT:=ah ht;have NQ:ba<w.heap.size:=aL w _ NF;have NR:bb<w.heap.size:=aL w _ NG;clear ht;obtain⟨W,p,y,r,HW,HP,HY,N_,HK,m⟩:=MI w xk yk Ae Ak Be Bk ne nk ce ck me mk de dk
 have N7:w.heap.size≤r:=by have:=HP.o;have:=N_.o;omega
 have e1:¬p=r:=by have:=N_.o;omega
 have e2:¬r=p:=by omega
 have e3:¬y=r:=by have:=N_.o;have:=HY.o;omega
 have e4:¬r=y:=by omega
 have e5:¬p=y:=by have:=HY.o;omega
 have e6:¬y=p:=by omega
 have hpr:p<r:=by have:=N_.o;omega
 have hyr:y<r:=by have:=N_.o;have:=HY.o;omega
 have NJ:=(HK.below.cell (p:=⟨ba,2,none⟩) NQ).trans NF;have NK:=(HK.below.cell (p:=⟨bb,2,none⟩) NR).trans NG;have a:=ah (((((((((Kept.a_ HK.below).af NK).af NJ).af HK.c5).af HK.c4).af HK.c3).af HK.c2).af HK.c1).af HK.c0 |>.drew);have s:=ah (((((Kept.nil W).af HK.t8.c0).af HK.c7).af HK.c6).drew);have m:=ah (m.drew);clear HK NJ NK NF NG;go_enter Tryz.func185,Tryz.ntmps185;go_wp2_with fail;rw[← HP.o,← HW.o,← N_.o,← HY.o];refine Rg (S:=eB _) a.cj (fun hHeld=>?_);obtain⟨w1,NN⟩:∃ v,v=W.drew:=⟨_,rfl⟩;rw[← NN]at hHeld a s m ⊢;clear NN;refine T4 0 9 1 10 2 11 3 12 ?_
 refine T4 6 15 7 16 8 17 9 18 ?_;refine T4 10 19 11 20 12 21 13 22 ?_;refine T2 14 23 15 24 ?_;refine wpAnyH_ready (rs:=[4,18]) (by kernel_rfl) (by simp) ?_;refine AllReadyH.cons (o:=⟨some 13,_,_,_,_,_⟩) rfl (fun K n=>?_) (AllReadyH.cons (o:=⟨some 8,_,_,_,_,_⟩) rfl (fun K n=>?_) (AllReadyH.nil))
 ·go_simp
  clear hHeld;refine Th n ?_ (fun hHeld=>?_)
  ·exact (a.alloc (.cells #[.string xk,.string yk] 9)).cj
  clear n K;obtain⟨h4,Nw⟩:∃ g,g=w1.heap.size:=⟨_,rfl⟩;obtain⟨X,M⟩:∃ v,v=w1.alloc (.cells #[.string xk,.string yk] 9):=⟨_,rfl⟩
  have i0:X.cell? ⟨h4,0,none⟩=some (.string xk):=by rw[M,Nw];go_simp
  have i1:X.cell? ⟨h4,1,none⟩=some (.string yk):=by rw[M,Nw];go_simp
  have a:ai (Kept [(⟨p,0,none⟩,.string xk),(⟨p,1,none⟩,.slice Ae ne ce),(⟨p,2,none⟩,.slice Ak nk ck),(⟨y,0,none⟩,.string yk),(⟨y,1,none⟩,.slice Be me de),(⟨y,2,none⟩,.slice Bk mk dk),(⟨ba,2,none⟩,.slice Ca na Ny),(⟨bb,2,none⟩,.slice Cb nb Nz)] w X):=ah (by rw[M];exact a.alloc _)
  have s:ai (Kept [(⟨r,0,none⟩,.string ⟨#[]⟩),(⟨r,1,none⟩,.slice none 0 0),(⟨r,2,none⟩,.slice none 0 0)] W X):=ah (by rw[M];exact s.alloc _)
  have m:ai (aA r X):=ah (by rw[M];exact m.alloc _)
  have NP:=ah M;rw[← M]at hHeld ⊢;rw[← Nw];clear M Nw;refine wpAnyH_ready (rs:=[5,18]) (by kernel_rfl) (by simp) ?_;refine AllReadyH.cons (o:=⟨some 14,_,_,_,_,_⟩) rfl (fun K n=>?_) (AllReadyH.cons (o:=⟨some 8,_,_,_,_,_⟩) rfl (fun K n=>?_) (AllReadyH.nil))
  ·go_simp
   (go_at_call 186;refine (Mx h4 xk yk key NA X i0 i1).mono ?_);rintro e v5 ⟨rfl,NC⟩;subst NC;clear hHeld;refine Th n ?_ (fun hHeld=>?_)
   ·exact a.cj
   clear n K;refine wpAnyH_ready (rs:=[16,18]) (by kernel_rfl) (by simp) ?_;refine AllReadyH.cons (o:=⟨some 25,_,_,_,_,_⟩) rfl (fun K n=>?_) (AllReadyH.cons (o:=⟨some 8,_,_,_,_,_⟩) rfl (fun K n=>?_) (AllReadyH.nil))
   ·go_simp
    (go_at_call 124;refine (HT.o X a.below).mono ?_);rintro e Y ⟨C,rn,D,Rk,x,rd,rfl,Nv,O⟩;obtain⟨U,N⟩:∃ z,z=X.heap.size:=⟨_,rfl⟩
    have NI:r<U:=by rw[N];exact m.1
    have V:ai (aW Y (fun b=>U≤b) t ⟨C,rn,D⟩ ⟨Rk,x,rd⟩):=aW.mono (fun b J _=>by omega) _ Nv
    have N8:ai (w.heap.size≤U):=ah (by rw[N];exact a.below.size)
    obtain⟨a,s,m⟩:=kE O a s m;clear Nv O N

    clear hHeld;refine Th n ?_ (fun hHeld=>?_)
    ·exact a.cj
    clear n K;refine Tk 17 26 ?_;refine Tc 18 (fun K n=>?_);go_simp;clear hHeld;refine Th n ?_ (fun hHeld=>?_)
    ·exact (a.alloc (.cells #[.string ⟨#[]⟩,.slice none 0 0,.slice none 0 0] 134)).cj
    clear n K;obtain⟨g,hg⟩:∃ g,g=Y.heap.size:=⟨_,rfl⟩;obtain⟨u,c⟩:∃ v,v=Y.alloc (.cells #[.string ⟨#[]⟩,.slice none 0 0,.slice none 0 0] 134):=⟨_,rfl⟩
    have A:ai (Kept [(⟨g,0,none⟩,.string ⟨#[]⟩),(⟨g,1,none⟩,.slice none 0 0),(⟨g,2,none⟩,.slice none 0 0)] W u):=by
     have h0:=Kept.a_ (s.alloc (.cells #[.string ⟨#[]⟩,.slice none 0 0,.slice none 0 0] 134)).below;rw[← c]at h0
     refine ((h0.af ?_).af ?_).af ?_ <;> (rw[c,hg];go_simp)
    have B:ai (aA g u):=⟨by rw[c,hg];simp,fun j=>by rw[c,hg];go_simp⟩
    have NH:r<g:=by have:=m.1;omega
    have R:ai (w.heap.size≤g):=by have:=a.below.size;unfold ai;omega
    have V:ai (aW u (fun b=>U≤b∧b≠g∧b≠r) t ⟨C,rn,D⟩ ⟨Rk,x,rd⟩):=by
     unfold ai;rw[c];exact aW.later (aW.mono (fun b J hlt=>⟨J,by omega,by omega⟩) _ V) (Dt.ay _ _ _)
    have a:ai (Kept [(⟨p,0,none⟩,.string xk),(⟨p,1,none⟩,.slice Ae ne ce),(⟨p,2,none⟩,.slice Ak nk ck),(⟨y,0,none⟩,.string yk),(⟨y,1,none⟩,.slice Be me de),(⟨y,2,none⟩,.slice Bk mk dk),(⟨ba,2,none⟩,.slice Ca na Ny),(⟨bb,2,none⟩,.slice Cb nb Nz)] w u):=ah (by rw[c];exact a.alloc _)
    have s:ai (Kept [(⟨r,0,none⟩,.string ⟨#[]⟩),(⟨r,1,none⟩,.slice none 0 0),(⟨r,2,none⟩,.slice none 0 0)] W u):=ah (by rw[c];exact s.alloc _)
    have m:ai (aA r u):=ah (by rw[c];exact m.alloc _)
    rw[← c]at hHeld ⊢;rw[← hg];clear c hg;obtain⟨z0,z1,z2,-⟩:=A.cj;have m0:=B.2 0;have m1:=B.2 1;have m2:=B.2 2;refine Tc 19 (fun K n=>?_);go_simp;refine Th n ?_ (fun d=>?_)
    ·(try dsimp only)
     have h9:=a.past3 (p:=g) R (by simp;omega) (.string key) (.slice C rn D) (.slice Rk x rd);exact h9.cj
    clear n K hHeld;have hHeld:=d;clear d;refine Td ?_;clear hHeld z0 z1 z2 m0 m1 m2;obtain⟨W9,F⟩:∃ W,W=((u.setCell ⟨g,0,none⟩ (.string key)).setCell ⟨g,1,none⟩ (.slice C rn D)).setCell ⟨g,2,none⟩ (.slice Rk x rd):=⟨_,rfl⟩
    have h:ai (Kept [(⟨g,0,none⟩,.string key),(⟨g,1,none⟩,.slice C rn D),(⟨g,2,none⟩,.slice Rk x rd)] w W9):=by
     unfold ai;rw[F];exact (Kept.a_ a.below).gQ (p:=g) R (by simp) ⟨_,A.c0⟩ ⟨_,A.c1⟩ ⟨_,A.c2⟩ _ _ _
    have k:ai (Kept [(⟨r,0,none⟩,.string ⟨#[]⟩),(⟨r,1,none⟩,.slice none 0 0),(⟨r,2,none⟩,.slice none 0 0)] w W9):=by
     unfold ai;rw[F];exact (s.rebase a.below).past3 (p:=g) R (by simp;omega) _ _ _
    have f:ai (aA r W9):=ah (by rw[F];exact ((m.set _ _).set _ _).set _ _)
    have q:ai (aW W9 (fun b=>U≤b∧b≠g∧b≠r) t ⟨C,rn,D⟩ ⟨Rk,x,rd⟩):=by
     unfold ai;rw[F];exact aW.keep (by simp[World.setCell]) (fun b J _=>((cZ _ ⟨g,2,none⟩ _ b (fun e=>J.2.1 e)).trans (cZ _ ⟨g,1,none⟩ _ b (fun e=>J.2.1 e))).trans (cZ _ ⟨g,0,none⟩ _ b (fun e=>J.2.1 e))) _ V
    rw[← F];clear F a s m V A B;go_wp2_with fail;refine Rg (S:=eB _) h.drew.cj (fun hHeld=>?_);obtain⟨w2,G⟩:∃ v,v=W9.drew:=⟨_,rfl⟩
    have h:ai (Kept [(⟨g,0,none⟩,.string key),(⟨g,1,none⟩,.slice C rn D),(⟨g,2,none⟩,.slice Rk x rd)] w w2):=ah (by rw[G];exact h.drew)
    have k:ai (Kept [(⟨r,0,none⟩,.string ⟨#[]⟩),(⟨r,1,none⟩,.slice none 0 0),(⟨r,2,none⟩,.slice none 0 0)] w w2):=ah (by rw[G];exact k.drew)
    have f:ai (aA r w2):=ah (by rw[G];exact f.drew)
    have q:ai (aW w2 (fun b=>U≤b∧b≠g∧b≠r) t ⟨C,rn,D⟩ ⟨Rk,x,rd⟩):=ah (by rw[G];exact aW.later q (bN).drew)
    rw[← G]at hHeld ⊢;clear G;refine T3 0 27 1 28 2 29 ?_;refine Tc 3 (fun K n=>?_);go_simp;(go_at_call 136;refine (iN C Rk rn x D rd _).mono ?_);rintro e N9 ⟨rfl,H⟩;obtain⟨h,k,f⟩:=kE H h k f;have q:=ah (aW.later q H);obtain⟨y0,y1,y2,-⟩:=k.cj;have n0:=f.2 0;have n1:=f.2 1;have n2:=f.2 2;clear H;clear hHeld;refine Th n ?_ (fun hHeld=>?_)
    ·exact h.cj
    clear n K;refine Tk 4 31 ?_;refine Tc 5 (fun K n=>?_);go_simp;refine Th n ?_ (fun d=>?_)
    ·(try dsimp only)
     have h9:=h.past3 (p:=r) N7 (by simp;omega) (.string key) (.slice C rn D) (.slice Rk x rd);exact h9.cj
    clear n K hHeld;have hHeld:=d;clear d;refine Tk 6 7 ?_;refine Td ?_;clear hHeld;obtain⟨L,i⟩:∃ W,W=((N9.setCell ⟨r,0,none⟩ (.string key)).setCell ⟨r,1,none⟩ (.slice C rn D)).setCell ⟨r,2,none⟩ (.slice Rk x rd):=⟨_,rfl⟩;have Z:=jF i k.below N7
    have l0:L.cell? ⟨r,0,none⟩=some (.string key):=by rw[i];go_simp
    have l1:L.cell? ⟨r,1,none⟩=some (.slice C rn D):=by rw[i];go_simp
    have l2:L.cell? ⟨r,2,none⟩=some (.slice Rk x rd):=by rw[i];go_simp
    have Q:ai (aW L (fun b=>w.heap.size≤b) t ⟨C,rn,D⟩ ⟨Rk,x,rd⟩):=by
     unfold ai;rw[i];exact aW.mono (fun b J _=>aN N8 J.1) _ (aW.keep (by simp[World.setCell]) (fun b J _=>((cZ _ ⟨r,2,none⟩ _ b (fun e=>J.2.2 e)).trans (cZ _ ⟨r,1,none⟩ _ b (fun e=>J.2.2 e))).trans (cZ _ ⟨r,0,none⟩ _ b (fun e=>J.2.2 e))) _ q)
    clear y0 y1 y2 n0 n1 n2;rw[← i];clear i;go_wp2_with fail;refine bodyPost_ret (v:=.tuple #[.agg #[.string key,.slice C rn D,.slice Rk x rd],.bool (!decide (rn=0∧x=0))]) (by simp[results,Tryz.results185,go_sem,l0,l1,l2]) rfl ⟨C,rn,D,Rk,x,rd,rfl,Q,Z⟩
   ·go_simp
    clear hHeld;refine Th n ?_ (fun hHeld=>?_)
    ·exact (a.alloc (.cells #[.string ⟨#[]⟩,.slice none 0 0,.slice none 0 0] 134)).cj
    clear n K;obtain⟨g,hg⟩:∃ g,g=X.heap.size:=⟨_,rfl⟩;obtain⟨u,c⟩:∃ v,v=X.alloc (.cells #[.string ⟨#[]⟩,.slice none 0 0,.slice none 0 0] 134):=⟨_,rfl⟩
    have A:ai (Kept [(⟨g,0,none⟩,.string ⟨#[]⟩),(⟨g,1,none⟩,.slice none 0 0),(⟨g,2,none⟩,.slice none 0 0)] W u):=by
     have h0:=Kept.a_ (s.alloc (.cells #[.string ⟨#[]⟩,.slice none 0 0,.slice none 0 0] 134)).below;rw[← c]at h0
     refine ((h0.af ?_).af ?_).af ?_ <;> (rw[c,hg];go_simp)
    have B:ai (aA g u):=⟨by rw[c,hg];simp,fun j=>by rw[c,hg];go_simp⟩
    have NH:r<g:=by have:=m.1;omega
    have R:ai (w.heap.size≤g):=by have:=a.below.size;unfold ai;omega
    have a:ai (Kept [(⟨p,0,none⟩,.string xk),(⟨p,1,none⟩,.slice Ae ne ce),(⟨p,2,none⟩,.slice Ak nk ck),(⟨y,0,none⟩,.string yk),(⟨y,1,none⟩,.slice Be me de),(⟨y,2,none⟩,.slice Bk mk dk),(⟨ba,2,none⟩,.slice Ca na Ny),(⟨bb,2,none⟩,.slice Cb nb Nz)] w u):=ah (by rw[c];exact a.alloc _)
    have s:ai (Kept [(⟨r,0,none⟩,.string ⟨#[]⟩),(⟨r,1,none⟩,.slice none 0 0),(⟨r,2,none⟩,.slice none 0 0)] W u):=ah (by rw[c];exact s.alloc _)
    have m:ai (aA r u):=ah (by rw[c];exact m.alloc _)
    rw[← c]at hHeld ⊢;rw[← hg];clear c hg;refine Tc 16 (fun K n=>?_);go_simp;(go_at_call 124;refine (HT.o u a.below).mono ?_);rintro e Y ⟨C,rn,D,Rk,x,rd,rfl,Nv,O⟩;obtain⟨U,N⟩:∃ z,z=u.heap.size:=⟨_,rfl⟩
    have NI:r<U:=by rw[N];exact m.1
    have NM:g<U:=by rw[N];exact B.1
    have V:ai (aW Y (fun b=>U≤b∧b≠g∧b≠r) t ⟨C,rn,D⟩ ⟨Rk,x,rd⟩):=aW.mono (fun b J _=>⟨by omega,by omega,by omega⟩) _ Nv
    have N8:ai (w.heap.size≤U):=ah (by rw[N];exact a.below.size)
    obtain⟨a,s,m,A,B⟩:=jo O a s m A B;clear Nv O N;obtain⟨z0,z1,z2,-⟩:=A.cj;have m0:=B.2 0;have m1:=B.2 1;have m2:=B.2 2;clear hHeld;refine Th n ?_ (fun hHeld=>?_)
    ·exact a.cj
    clear n K;refine Tk 17 26 ?_;refine Tc 19 (fun K n=>?_);go_simp;refine Th n ?_ (fun d=>?_)
    ·(try dsimp only)
     have h9:=a.past3 (p:=g) R (by simp;omega) (.string key) (.slice C rn D) (.slice Rk x rd);exact h9.cj
    clear n K hHeld;have hHeld:=d;clear d;refine Td ?_;clear hHeld z0 z1 z2 m0 m1 m2;obtain⟨W9,F⟩:∃ W,W=((Y.setCell ⟨g,0,none⟩ (.string key)).setCell ⟨g,1,none⟩ (.slice C rn D)).setCell ⟨g,2,none⟩ (.slice Rk x rd):=⟨_,rfl⟩
    have h:ai (Kept [(⟨g,0,none⟩,.string key),(⟨g,1,none⟩,.slice C rn D),(⟨g,2,none⟩,.slice Rk x rd)] w W9):=by
     unfold ai;rw[F];exact (Kept.a_ a.below).gQ (p:=g) R (by simp) ⟨_,A.c0⟩ ⟨_,A.c1⟩ ⟨_,A.c2⟩ _ _ _
    have k:ai (Kept [(⟨r,0,none⟩,.string ⟨#[]⟩),(⟨r,1,none⟩,.slice none 0 0),(⟨r,2,none⟩,.slice none 0 0)] w W9):=by
     unfold ai;rw[F];exact (s.rebase a.below).past3 (p:=g) R (by simp;omega) _ _ _
    have f:ai (aA r W9):=ah (by rw[F];exact ((m.set _ _).set _ _).set _ _)
    have q:ai (aW W9 (fun b=>U≤b∧b≠g∧b≠r) t ⟨C,rn,D⟩ ⟨Rk,x,rd⟩):=by
     unfold ai;rw[F];exact aW.keep (by simp[World.setCell]) (fun b J _=>((cZ _ ⟨g,2,none⟩ _ b (fun e=>J.2.1 e)).trans (cZ _ ⟨g,1,none⟩ _ b (fun e=>J.2.1 e))).trans (cZ _ ⟨g,0,none⟩ _ b (fun e=>J.2.1 e))) _ V
    rw[← F];clear F a s m V A B;go_wp2_with fail;refine Rg (S:=eB _) h.drew.cj (fun hHeld=>?_);obtain⟨w2,G⟩:∃ v,v=W9.drew:=⟨_,rfl⟩
    have h:ai (Kept [(⟨g,0,none⟩,.string key),(⟨g,1,none⟩,.slice C rn D),(⟨g,2,none⟩,.slice Rk x rd)] w w2):=ah (by rw[G];exact h.drew)
    have k:ai (Kept [(⟨r,0,none⟩,.string ⟨#[]⟩),(⟨r,1,none⟩,.slice none 0 0),(⟨r,2,none⟩,.slice none 0 0)] w w2):=ah (by rw[G];exact k.drew)
    have f:ai (aA r w2):=ah (by rw[G];exact f.drew)
    have q:ai (aW w2 (fun b=>U≤b∧b≠g∧b≠r) t ⟨C,rn,D⟩ ⟨Rk,x,rd⟩):=ah (by rw[G];exact aW.later q (bN).drew)
    rw[← G]at hHeld ⊢;clear G;refine T3 0 27 1 28 2 29 ?_;refine Tc 3 (fun K n=>?_);go_simp;(go_at_call 136;refine (iN C Rk rn x D rd _).mono ?_);rintro e N9 ⟨rfl,H⟩;obtain⟨h,k,f⟩:=kE H h k f;have q:=ah (aW.later q H);obtain⟨y0,y1,y2,-⟩:=k.cj;have n0:=f.2 0;have n1:=f.2 1;have n2:=f.2 2;clear H;clear hHeld;refine Th n ?_ (fun hHeld=>?_)
    ·exact h.cj
    clear n K;refine Tk 4 31 ?_;refine Tc 5 (fun K n=>?_);go_simp;refine Th n ?_ (fun d=>?_)
    ·(try dsimp only)
     have h9:=h.past3 (p:=r) N7 (by simp;omega) (.string key) (.slice C rn D) (.slice Rk x rd);exact h9.cj
    clear n K hHeld;have hHeld:=d;clear d;refine Tk 6 7 ?_;refine Td ?_;clear hHeld;obtain⟨L,i⟩:∃ W,W=((N9.setCell ⟨r,0,none⟩ (.string key)).setCell ⟨r,1,none⟩ (.slice C rn D)).setCell ⟨r,2,none⟩ (.slice Rk x rd):=⟨_,rfl⟩;have Z:=jF i k.below N7
    have l0:L.cell? ⟨r,0,none⟩=some (.string key):=by rw[i];go_simp
    have l1:L.cell? ⟨r,1,none⟩=some (.slice C rn D):=by rw[i];go_simp
    have l2:L.cell? ⟨r,2,none⟩=some (.slice Rk x rd):=by rw[i];go_simp
    have Q:ai (aW L (fun b=>w.heap.size≤b) t ⟨C,rn,D⟩ ⟨Rk,x,rd⟩):=by
     unfold ai;rw[i];exact aW.mono (fun b J _=>aN N8 J.1) _ (aW.keep (by simp[World.setCell]) (fun b J _=>((cZ _ ⟨r,2,none⟩ _ b (fun e=>J.2.2 e)).trans (cZ _ ⟨r,1,none⟩ _ b (fun e=>J.2.2 e))).trans (cZ _ ⟨r,0,none⟩ _ b (fun e=>J.2.2 e))) _ q)
    clear y0 y1 y2 n0 n1 n2;rw[← i];clear i;go_wp2_with fail;refine bodyPost_ret (v:=.tuple #[.agg #[.string key,.slice C rn D,.slice Rk x rd],.bool (!decide (rn=0∧x=0))]) (by simp[results,Tryz.results185,go_sem,l0,l1,l2]) rfl ⟨C,rn,D,Rk,x,rd,rfl,Q,Z⟩
  ·go_simp
   clear hHeld;refine Th n ?_ (fun hHeld=>?_)
   ·exact (a.alloc (.cells #[.string ⟨#[]⟩,.slice none 0 0,.slice none 0 0] 134)).cj
   clear n K;obtain⟨g,hg⟩:∃ g,g=X.heap.size:=⟨_,rfl⟩;obtain⟨u,c⟩:∃ v,v=X.alloc (.cells #[.string ⟨#[]⟩,.slice none 0 0,.slice none 0 0] 134):=⟨_,rfl⟩
   have NE:av X u:=by rw[c];exact Dt.ay _ _ _
   replace i0:=(NE.cell (p:=⟨h4,0,none⟩) (aL X _ i0)).trans i0
   replace i1:=(NE.cell (p:=⟨h4,1,none⟩) (aL X _ i1)).trans i1
   have A:ai (Kept [(⟨g,0,none⟩,.string ⟨#[]⟩),(⟨g,1,none⟩,.slice none 0 0),(⟨g,2,none⟩,.slice none 0 0)] W u):=by
    have h0:=Kept.a_ (s.alloc (.cells #[.string ⟨#[]⟩,.slice none 0 0,.slice none 0 0] 134)).below;rw[← c]at h0
    refine ((h0.af ?_).af ?_).af ?_ <;> (rw[c,hg];go_simp)
   have B:ai (aA g u):=⟨by rw[c,hg];simp,fun j=>by rw[c,hg];go_simp⟩
   have NH:r<g:=by have:=m.1;omega
   have R:ai (w.heap.size≤g):=by have:=a.below.size;unfold ai;omega
   have a:ai (Kept [(⟨p,0,none⟩,.string xk),(⟨p,1,none⟩,.slice Ae ne ce),(⟨p,2,none⟩,.slice Ak nk ck),(⟨y,0,none⟩,.string yk),(⟨y,1,none⟩,.slice Be me de),(⟨y,2,none⟩,.slice Bk mk dk),(⟨ba,2,none⟩,.slice Ca na Ny),(⟨bb,2,none⟩,.slice Cb nb Nz)] w u):=ah (by rw[c];exact a.alloc _)
   have s:ai (Kept [(⟨r,0,none⟩,.string ⟨#[]⟩),(⟨r,1,none⟩,.slice none 0 0),(⟨r,2,none⟩,.slice none 0 0)] W u):=ah (by rw[c];exact s.alloc _)
   have m:ai (aA r u):=ah (by rw[c];exact m.alloc _)
   rw[← c]at hHeld ⊢;rw[← hg];clear c hg;refine Tc 5 (fun K n=>?_);go_simp;(go_at_call 186;refine (Mx h4 xk yk key NA u i0 i1).mono ?_);rintro e v5 ⟨rfl,NC⟩;subst NC;clear hHeld;refine Th n ?_ (fun hHeld=>?_)
   ·exact a.cj
   clear n K;refine Tc 16 (fun K n=>?_);go_simp;(go_at_call 124;refine (HT.o u a.below).mono ?_);rintro e Y ⟨C,rn,D,Rk,x,rd,rfl,Nv,O⟩;obtain⟨U,N⟩:∃ z,z=u.heap.size:=⟨_,rfl⟩
   have NI:r<U:=by rw[N];exact m.1
   have NM:g<U:=by rw[N];exact B.1
   have V:ai (aW Y (fun b=>U≤b∧b≠g∧b≠r) t ⟨C,rn,D⟩ ⟨Rk,x,rd⟩):=aW.mono (fun b J _=>⟨by omega,by omega,by omega⟩) _ Nv
   have N8:ai (w.heap.size≤U):=ah (by rw[N];exact a.below.size)
   obtain⟨a,s,m,A,B⟩:=jo O a s m A B;clear Nv O N;obtain⟨z0,z1,z2,-⟩:=A.cj;have m0:=B.2 0;have m1:=B.2 1;have m2:=B.2 2;clear hHeld;refine Th n ?_ (fun hHeld=>?_)
   ·exact a.cj
   clear n K;refine Tk 17 26 ?_;refine Tc 19 (fun K n=>?_);go_simp;refine Th n ?_ (fun d=>?_)
   ·(try dsimp only)
    have h9:=a.past3 (p:=g) R (by simp;omega) (.string key) (.slice C rn D) (.slice Rk x rd);exact h9.cj
   clear n K hHeld;have hHeld:=d;clear d;refine Td ?_;clear hHeld z0 z1 z2 m0 m1 m2;obtain⟨W9,F⟩:∃ W,W=((Y.setCell ⟨g,0,none⟩ (.string key)).setCell ⟨g,1,none⟩ (.slice C rn D)).setCell ⟨g,2,none⟩ (.slice Rk x rd):=⟨_,rfl⟩
   have h:ai (Kept [(⟨g,0,none⟩,.string key),(⟨g,1,none⟩,.slice C rn D),(⟨g,2,none⟩,.slice Rk x rd)] w W9):=by
    unfold ai;rw[F];exact (Kept.a_ a.below).gQ (p:=g) R (by simp) ⟨_,A.c0⟩ ⟨_,A.c1⟩ ⟨_,A.c2⟩ _ _ _
   have k:ai (Kept [(⟨r,0,none⟩,.string ⟨#[]⟩),(⟨r,1,none⟩,.slice none 0 0),(⟨r,2,none⟩,.slice none 0 0)] w W9):=by
    unfold ai;rw[F];exact (s.rebase a.below).past3 (p:=g) R (by simp;omega) _ _ _
   have f:ai (aA r W9):=ah (by rw[F];exact ((m.set _ _).set _ _).set _ _)
   have q:ai (aW W9 (fun b=>U≤b∧b≠g∧b≠r) t ⟨C,rn,D⟩ ⟨Rk,x,rd⟩):=by
    unfold ai;rw[F];exact aW.keep (by simp[World.setCell]) (fun b J _=>((cZ _ ⟨g,2,none⟩ _ b (fun e=>J.2.1 e)).trans (cZ _ ⟨g,1,none⟩ _ b (fun e=>J.2.1 e))).trans (cZ _ ⟨g,0,none⟩ _ b (fun e=>J.2.1 e))) _ V
   rw[← F];clear F a s m V A B;go_wp2_with fail;refine Rg (S:=eB _) h.drew.cj (fun hHeld=>?_);obtain⟨w2,G⟩:∃ v,v=W9.drew:=⟨_,rfl⟩
   have h:ai (Kept [(⟨g,0,none⟩,.string key),(⟨g,1,none⟩,.slice C rn D),(⟨g,2,none⟩,.slice Rk x rd)] w w2):=ah (by rw[G];exact h.drew)
   have k:ai (Kept [(⟨r,0,none⟩,.string ⟨#[]⟩),(⟨r,1,none⟩,.slice none 0 0),(⟨r,2,none⟩,.slice none 0 0)] w w2):=ah (by rw[G];exact k.drew)
   have f:ai (aA r w2):=ah (by rw[G];exact f.drew)
   have q:ai (aW w2 (fun b=>U≤b∧b≠g∧b≠r) t ⟨C,rn,D⟩ ⟨Rk,x,rd⟩):=ah (by rw[G];exact aW.later q (bN).drew)
   rw[← G]at hHeld ⊢;clear G;refine T3 0 27 1 28 2 29 ?_;refine Tc 3 (fun K n=>?_);go_simp;(go_at_call 136;refine (iN C Rk rn x D rd _).mono ?_);rintro e N9 ⟨rfl,H⟩;obtain⟨h,k,f⟩:=kE H h k f;have q:=ah (aW.later q H);obtain⟨y0,y1,y2,-⟩:=k.cj;have n0:=f.2 0;have n1:=f.2 1;have n2:=f.2 2;clear H;clear hHeld;refine Th n ?_ (fun hHeld=>?_)
   ·exact h.cj
   clear n K;refine Tk 4 31 ?_;refine Tc 5 (fun K n=>?_);go_simp;refine Th n ?_ (fun d=>?_)
   ·(try dsimp only)
    have h9:=h.past3 (p:=r) N7 (by simp;omega) (.string key) (.slice C rn D) (.slice Rk x rd);exact h9.cj
   clear n K hHeld;have hHeld:=d;clear d;refine Tk 6 7 ?_;refine Td ?_;clear hHeld;obtain⟨L,i⟩:∃ W,W=((N9.setCell ⟨r,0,none⟩ (.string key)).setCell ⟨r,1,none⟩ (.slice C rn D)).setCell ⟨r,2,none⟩ (.slice Rk x rd):=⟨_,rfl⟩;have Z:=jF i k.below N7
   have l0:L.cell? ⟨r,0,none⟩=some (.string key):=by rw[i];go_simp
   have l1:L.cell? ⟨r,1,none⟩=some (.slice C rn D):=by rw[i];go_simp
   have l2:L.cell? ⟨r,2,none⟩=some (.slice Rk x rd):=by rw[i];go_simp
   have Q:ai (aW L (fun b=>w.heap.size≤b) t ⟨C,rn,D⟩ ⟨Rk,x,rd⟩):=by
    unfold ai;rw[i];exact aW.mono (fun b J _=>aN N8 J.1) _ (aW.keep (by simp[World.setCell]) (fun b J _=>((cZ _ ⟨r,2,none⟩ _ b (fun e=>J.2.2 e)).trans (cZ _ ⟨r,1,none⟩ _ b (fun e=>J.2.2 e))).trans (cZ _ ⟨r,0,none⟩ _ b (fun e=>J.2.2 e))) _ q)
   clear y0 y1 y2 n0 n1 n2;rw[← i];clear i;go_wp2_with fail;refine bodyPost_ret (v:=.tuple #[.agg #[.string key,.slice C rn D,.slice Rk x rd],.bool (!decide (rn=0∧x=0))]) (by simp[results,Tryz.results185,go_sem,l0,l1,l2]) rfl ⟨C,rn,D,Rk,x,rd,rfl,Q,Z⟩
 ·go_simp
  clear hHeld;refine Th n ?_ (fun hHeld=>?_)
  ·exact (a.alloc (.cells #[.string ⟨#[]⟩,.slice none 0 0,.slice none 0 0] 134)).cj
  clear n K;obtain⟨g,hg⟩:∃ g,g=w1.heap.size:=⟨_,rfl⟩;obtain⟨u,c⟩:∃ v,v=w1.alloc (.cells #[.string ⟨#[]⟩,.slice none 0 0,.slice none 0 0] 134):=⟨_,rfl⟩
  have A:ai (Kept [(⟨g,0,none⟩,.string ⟨#[]⟩),(⟨g,1,none⟩,.slice none 0 0),(⟨g,2,none⟩,.slice none 0 0)] W u):=by
   have h0:=Kept.a_ (s.alloc (.cells #[.string ⟨#[]⟩,.slice none 0 0,.slice none 0 0] 134)).below;rw[← c]at h0
   refine ((h0.af ?_).af ?_).af ?_ <;> (rw[c,hg];go_simp)
  have B:ai (aA g u):=⟨by rw[c,hg];simp,fun j=>by rw[c,hg];go_simp⟩
  have NH:r<g:=by have:=m.1;omega
  have R:ai (w.heap.size≤g):=by have:=a.below.size;unfold ai;omega
  have a:ai (Kept [(⟨p,0,none⟩,.string xk),(⟨p,1,none⟩,.slice Ae ne ce),(⟨p,2,none⟩,.slice Ak nk ck),(⟨y,0,none⟩,.string yk),(⟨y,1,none⟩,.slice Be me de),(⟨y,2,none⟩,.slice Bk mk dk),(⟨ba,2,none⟩,.slice Ca na Ny),(⟨bb,2,none⟩,.slice Cb nb Nz)] w u):=ah (by rw[c];exact a.alloc _)
  have s:ai (Kept [(⟨r,0,none⟩,.string ⟨#[]⟩),(⟨r,1,none⟩,.slice none 0 0),(⟨r,2,none⟩,.slice none 0 0)] W u):=ah (by rw[c];exact s.alloc _)
  have m:ai (aA r u):=ah (by rw[c];exact m.alloc _)
  rw[← c]at hHeld ⊢;rw[← hg];clear c hg;refine Tc 4 (fun K n=>?_);go_simp;clear hHeld;refine Th n ?_ (fun hHeld=>?_)
  ·exact (a.alloc (.cells #[.string xk,.string yk] 9)).cj
  clear n K;obtain⟨h4,Nw⟩:∃ g,g=u.heap.size:=⟨_,rfl⟩;obtain⟨X,M⟩:∃ v,v=u.alloc (.cells #[.string xk,.string yk] 9):=⟨_,rfl⟩
  have i0:X.cell? ⟨h4,0,none⟩=some (.string xk):=by rw[M,Nw];go_simp
  have i1:X.cell? ⟨h4,1,none⟩=some (.string yk):=by rw[M,Nw];go_simp
  have a:ai (Kept [(⟨p,0,none⟩,.string xk),(⟨p,1,none⟩,.slice Ae ne ce),(⟨p,2,none⟩,.slice Ak nk ck),(⟨y,0,none⟩,.string yk),(⟨y,1,none⟩,.slice Be me de),(⟨y,2,none⟩,.slice Bk mk dk),(⟨ba,2,none⟩,.slice Ca na Ny),(⟨bb,2,none⟩,.slice Cb nb Nz)] w X):=ah (by rw[M];exact a.alloc _)
  have s:ai (Kept [(⟨r,0,none⟩,.string ⟨#[]⟩),(⟨r,1,none⟩,.slice none 0 0),(⟨r,2,none⟩,.slice none 0 0)] W X):=ah (by rw[M];exact s.alloc _)
  have m:ai (aA r X):=ah (by rw[M];exact m.alloc _)
  have A:ai (Kept [(⟨g,0,none⟩,.string ⟨#[]⟩),(⟨g,1,none⟩,.slice none 0 0),(⟨g,2,none⟩,.slice none 0 0)] W X):=ah (by rw[M];exact A.alloc _)
  have B:ai (aA g X):=ah (by rw[M];exact B.alloc _)
  have NP:=ah M;rw[← M]at hHeld ⊢;rw[← Nw];clear M Nw;refine Tc 5 (fun K n=>?_);go_simp;(go_at_call 186;refine (Mx h4 xk yk key NA X i0 i1).mono ?_);rintro e v5 ⟨rfl,NC⟩;subst NC;clear hHeld;refine Th n ?_ (fun hHeld=>?_)
  ·exact a.cj
  clear n K;refine Tc 16 (fun K n=>?_);go_simp;(go_at_call 124;refine (HT.o X a.below).mono ?_);rintro e Y ⟨C,rn,D,Rk,x,rd,rfl,Nv,O⟩;obtain⟨U,N⟩:∃ z,z=X.heap.size:=⟨_,rfl⟩
  have NI:r<U:=by rw[N];exact m.1
  have NM:g<U:=by rw[N];exact B.1
  have V:ai (aW Y (fun b=>U≤b∧b≠g∧b≠r) t ⟨C,rn,D⟩ ⟨Rk,x,rd⟩):=aW.mono (fun b J _=>⟨by omega,by omega,by omega⟩) _ Nv
  have N8:ai (w.heap.size≤U):=ah (by rw[N];exact a.below.size)
  obtain⟨a,s,m,A,B⟩:=jo O a s m A B;clear Nv O N;obtain⟨z0,z1,z2,-⟩:=A.cj;have m0:=B.2 0;have m1:=B.2 1;have m2:=B.2 2;clear hHeld;refine Th n ?_ (fun hHeld=>?_)
  ·exact a.cj
  clear n K;refine Tk 17 26 ?_;refine Tc 19 (fun K n=>?_);go_simp;refine Th n ?_ (fun d=>?_)
  ·(try dsimp only)
   have h9:=a.past3 (p:=g) R (by simp;omega) (.string key) (.slice C rn D) (.slice Rk x rd);exact h9.cj
  clear n K hHeld;have hHeld:=d;clear d;refine Td ?_;clear hHeld z0 z1 z2 m0 m1 m2;obtain⟨W9,F⟩:∃ W,W=((Y.setCell ⟨g,0,none⟩ (.string key)).setCell ⟨g,1,none⟩ (.slice C rn D)).setCell ⟨g,2,none⟩ (.slice Rk x rd):=⟨_,rfl⟩
  have h:ai (Kept [(⟨g,0,none⟩,.string key),(⟨g,1,none⟩,.slice C rn D),(⟨g,2,none⟩,.slice Rk x rd)] w W9):=by
   unfold ai;rw[F];exact (Kept.a_ a.below).gQ (p:=g) R (by simp) ⟨_,A.c0⟩ ⟨_,A.c1⟩ ⟨_,A.c2⟩ _ _ _
  have k:ai (Kept [(⟨r,0,none⟩,.string ⟨#[]⟩),(⟨r,1,none⟩,.slice none 0 0),(⟨r,2,none⟩,.slice none 0 0)] w W9):=by
   unfold ai;rw[F];exact (s.rebase a.below).past3 (p:=g) R (by simp;omega) _ _ _
  have f:ai (aA r W9):=ah (by rw[F];exact ((m.set _ _).set _ _).set _ _)
  have q:ai (aW W9 (fun b=>U≤b∧b≠g∧b≠r) t ⟨C,rn,D⟩ ⟨Rk,x,rd⟩):=by
   unfold ai;rw[F];exact aW.keep (by simp[World.setCell]) (fun b J _=>((cZ _ ⟨g,2,none⟩ _ b (fun e=>J.2.1 e)).trans (cZ _ ⟨g,1,none⟩ _ b (fun e=>J.2.1 e))).trans (cZ _ ⟨g,0,none⟩ _ b (fun e=>J.2.1 e))) _ V
  rw[← F];clear F a s m V A B;go_wp2_with fail;refine Rg (S:=eB _) h.drew.cj (fun hHeld=>?_);obtain⟨w2,G⟩:∃ v,v=W9.drew:=⟨_,rfl⟩
  have h:ai (Kept [(⟨g,0,none⟩,.string key),(⟨g,1,none⟩,.slice C rn D),(⟨g,2,none⟩,.slice Rk x rd)] w w2):=ah (by rw[G];exact h.drew)
  have k:ai (Kept [(⟨r,0,none⟩,.string ⟨#[]⟩),(⟨r,1,none⟩,.slice none 0 0),(⟨r,2,none⟩,.slice none 0 0)] w w2):=ah (by rw[G];exact k.drew)
  have f:ai (aA r w2):=ah (by rw[G];exact f.drew)
  have q:ai (aW w2 (fun b=>U≤b∧b≠g∧b≠r) t ⟨C,rn,D⟩ ⟨Rk,x,rd⟩):=ah (by rw[G];exact aW.later q (bN).drew)
  rw[← G]at hHeld ⊢;clear G;refine T3 0 27 1 28 2 29 ?_;refine Tc 3 (fun K n=>?_);go_simp;(go_at_call 136;refine (iN C Rk rn x D rd _).mono ?_);rintro e N9 ⟨rfl,H⟩;obtain⟨h,k,f⟩:=kE H h k f;have q:=ah (aW.later q H);obtain⟨y0,y1,y2,-⟩:=k.cj;have n0:=f.2 0;have n1:=f.2 1;have n2:=f.2 2;clear H;clear hHeld;refine Th n ?_ (fun hHeld=>?_)
  ·exact h.cj
  clear n K;refine Tk 4 31 ?_;refine Tc 5 (fun K n=>?_);go_simp;refine Th n ?_ (fun d=>?_)
  ·(try dsimp only)
   have h9:=h.past3 (p:=r) N7 (by simp;omega) (.string key) (.slice C rn D) (.slice Rk x rd);exact h9.cj
  clear n K hHeld;have hHeld:=d;clear d;refine Tk 6 7 ?_;refine Td ?_;clear hHeld;obtain⟨L,i⟩:∃ W,W=((N9.setCell ⟨r,0,none⟩ (.string key)).setCell ⟨r,1,none⟩ (.slice C rn D)).setCell ⟨r,2,none⟩ (.slice Rk x rd):=⟨_,rfl⟩;have Z:=jF i k.below N7
  have l0:L.cell? ⟨r,0,none⟩=some (.string key):=by rw[i];go_simp
  have l1:L.cell? ⟨r,1,none⟩=some (.slice C rn D):=by rw[i];go_simp
  have l2:L.cell? ⟨r,2,none⟩=some (.slice Rk x rd):=by rw[i];go_simp
  have Q:ai (aW L (fun b=>w.heap.size≤b) t ⟨C,rn,D⟩ ⟨Rk,x,rd⟩):=by
   unfold ai;rw[i];exact aW.mono (fun b J _=>aN N8 J.1) _ (aW.keep (by simp[World.setCell]) (fun b J _=>((cZ _ ⟨r,2,none⟩ _ b (fun e=>J.2.2 e)).trans (cZ _ ⟨r,1,none⟩ _ b (fun e=>J.2.2 e))).trans (cZ _ ⟨r,0,none⟩ _ b (fun e=>J.2.2 e))) _ q)
  clear y0 y1 y2 n0 n1 n2;rw[← i];clear i;go_wp2_with fail;refine bodyPost_ret (v:=.tuple #[.agg #[.string key,.slice C rn D,.slice Rk x rd],.bool (!decide (rn=0∧x=0))]) (by simp[results,Tryz.results185,go_sem,l0,l1,l2]) rfl ⟨C,rn,D,Rk,x,rd,rfl,Q,Z⟩
end Cs
end Go.Proofs.YtgeafpaognhokaaGreat
