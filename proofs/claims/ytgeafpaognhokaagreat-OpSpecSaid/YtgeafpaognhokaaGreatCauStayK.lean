/- What is known: which kids stay. -/
import Derived.Test.YtgeafpaognhokaaGreatG00
import Derived.Test.YtgeafpaognhokaaGreatCauMrgE
import Derived.Test.YtgeafpaognhokaaGreatG10
namespace Go.Proofs.YtgeafpaognhokaaGreat
open ChangeShapes WideShapes ChangeAt RowKit
namespace Cs
open Tr Cx Sp Rw
theorem M4 (g:Nat) (x y z:ByteArray) (c:(if x.size=0 then y else x)=z) (w:World) (h0:w.cell? ⟨g,0,none⟩=some (.string x)) (h1:w.cell? ⟨g,1,none⟩=some (.string y)) :
  Calls Tryz.prog 186 #[.slice (some ⟨g,0,none⟩) 2 2] w fun e w'=>e = .returned (.string z)∧w=w':=by
 have j:∀ b:ByteArray,b.size=0→b=⟨#[]⟩:=fun b h=>by
  obtain⟨⟨l⟩⟩:=b;have n:l.length=0:=h;rw[jE.1 n]
 by_cases f:x.size=0
 ·rw[if_pos f]at c
  subst c;obtain rfl:=j x f;have fe:=mJ;have fe2:(⟨#[]⟩:ByteArray).toList=[]:=List.isEmpty_iff.1 mJ
  by_cases r:y.size=0
  ·obtain rfl:=j y r
   go_enter Tryz.func186,Tryz.ntmps186;go_wp2
   go_loop [8] (fun i=>∃ k:Nat,k≤2∧i = .int .i64 k) (fun i=>2-(intOf i).toNat)
   case atStart=>exact⟨0,by omega,rfl⟩
   case round=>
    obtain⟨k,q,rfl⟩:=hrel
    rcases (by omega:k=0∨k=1∨k=2)with rfl | rfl | rfl
    ·go_wp2
     go_round
     case rel=>exact⟨1,by omega,rfl⟩
     case measure=>simp[intOf]
    ·go_wp2
     go_round
     case rel=>exact⟨2,by omega,rfl⟩
     case measure=>simp[intOf]
    ·go_wp2
     go_ret;exact⟨rfl,rfl⟩
  ·have a:=mQ (k:=y) (by omega)
   have d:¬y.toList=[]:=fun h=>by rw[h]at a;cases a
   have m:(y.toList != ([]:List UInt8))=true:=by simpa using d
   go_enter Tryz.func186,Tryz.ntmps186;go_wp2
   go_loop [8] (fun i=>∃ k:Nat,k≤1∧i = .int .i64 k) (fun i=>2-(intOf i).toNat)
   case atStart=>exact⟨0,by omega,rfl⟩
   case round=>
    obtain⟨k,q,rfl⟩:=hrel
    rcases (by omega:k=0∨k=1)with rfl | rfl
    ·go_wp2
     go_round
     case rel=>exact⟨1,by omega,rfl⟩
     case measure=>simp[intOf]
    ·go_wp2
     go_ret;exact⟨rfl,rfl⟩
 ·rw[if_neg f]at c
  subst c;have a:=mQ (k:=x) (by omega)
  have d:¬x.toList=[]:=fun h=>by rw[h]at a;cases a
  have m:(x.toList != ([]:List UInt8))=true:=by simpa using d
  go_enter Tryz.func186,Tryz.ntmps186;go_wp2
  go_loop [8] (fun i=>i = .int .i64 0) (fun i=>2-(intOf i).toNat)
  case atStart=>rfl
  case round=>
   subst hrel;go_wp2;go_ret;exact⟨rfl,rfl⟩
theorem MK (w:World) (f g:ByteArray) (Ae Ak a b:Option Addr) (ne nk ce ck e mk c d:Nat):∃ (W:World) (p y r:Nat),ai (W=((w.alloc (.cells #[.string f,.slice Ae ne ce,.slice Ak nk ck] 134)).alloc (.cells #[.string g,.slice a e c,.slice b mk d] 134)).alloc (.cells #[.string ⟨#[]⟩,.slice none 0 0,.slice none 0 0] 134))∧ai (p=w.heap.size)∧ai (y=p+1)∧ai (r=p+1+1)∧ai (Kept [(⟨p,0,none⟩,.string f),(⟨p,1,none⟩,.slice Ae ne ce),(⟨p,2,none⟩,.slice Ak nk ck),(⟨y,0,none⟩,.string g),(⟨y,1,none⟩,.slice a e c),(⟨y,2,none⟩,.slice b mk d),(⟨r,0,none⟩,.string ⟨#[]⟩),(⟨r,1,none⟩,.slice none 0 0),(⟨r,2,none⟩,.slice none 0 0)] w W)∧ai (aA r W):=by
 refine⟨_,_,_,_,rfl,rfl,rfl,rfl,?_,⟨by simp,fun j=>by go_simp⟩⟩;have h:=Kept.a_ (gH w #[.string f,.slice Ae ne ce,.slice Ak nk ck] #[.string g,.slice a e c,.slice b mk d] #[.string ⟨#[]⟩,.slice none 0 0,.slice none 0 0] 134 134 134)
 refine ((((((((h.af ?_).af ?_).af ?_).af ?_).af ?_).af ?_).af ?_).af ?_).af ?_ <;> go_simp
def uj (key:ByteArray) (t:T) (w:World) (e:Ending) (w':World):Prop:=∃ Ae ne ce Ak nk ck,e = .returned (.tuple #[.agg #[.string key,.slice Ae ne ce,.slice Ak nk ck],.bool (!decide (ne=0∧nk=0))])∧aX w' (fun b=>w.heap.size≤b) t ⟨Ae,ne,ce⟩ ⟨Ak,nk,ck⟩∧av w w'
section
variable {l:List (Addr×Value)} {w0 W w':World} {p:Nat}
theorem _root_.Go.Proofs.YtgeafpaognhokaaGreat.Kept.past3 (K:Kept l w0 W) (c:w0.heap.size≤p) (b:∀ x∈l,x.1.block≠p) (v0 v1 v2:Value):Kept l w0 (((W.setCell ⟨p,0,none⟩ v0).setCell ⟨p,1,none⟩ v1).setCell ⟨p,2,none⟩ v2):=
 ((K.set (a:=⟨p,0,none⟩) c b v0).set (a:=⟨p,1,none⟩) c b v1).set (a:=⟨p,2,none⟩) c b v2
theorem _root_.Go.Proofs.YtgeafpaognhokaaGreat.Kept.gT (K:Kept l w0 W) (e:w0.heap.size≤p) (d:∀ x∈l,x.1.block≠p) (a:∃ u,W.cell? ⟨p,0,none⟩=some u) (b:∃ u,W.cell? ⟨p,1,none⟩=some u) (c:∃ u,W.cell? ⟨p,2,none⟩=some u) (v0 v1 v2:Value):Kept ((⟨p,0,none⟩,v0)::(⟨p,1,none⟩,v1)::(⟨p,2,none⟩,v2)::l) w0 (((W.setCell ⟨p,0,none⟩ v0).setCell ⟨p,1,none⟩ v1).setCell ⟨p,2,none⟩ v2):=by
 obtain⟨u0,a⟩:=a;obtain⟨u1,b⟩:=b;obtain⟨u2,c⟩:=c
 refine (((K.past3 e d v0 v1 v2).af ?_).af ?_).af ?_ <;> go_simp
end
set_option maxRecDepth 100000 in
set_option maxHeartbeats 4000000 in
theorem nZ (xk yk:ByteArray) (Ae Ak Be Bk:Option Addr) (ne nk ce ck me mk de dk:Nat) (Ca Cb:Option Addr) (na N7 nb N8 ba bb:Nat) (w:World) (NH:w.cell? ⟨ba,2,none⟩=some (.slice Ca na N7)) (NI:w.cell? ⟨bb,2,none⟩=some (.slice Cb nb N8)) (t:T) (key:ByteArray) (NE:(if xk.size=0 then yk else xk)=key)
  (ht:∀ W,av w W→Calls Tryz.prog 124 #[.agg #[.slice Ae ne ce,.slice Ak nk ck,.slice Ca na N7],.agg #[.slice Be me de,.slice Bk mk dk,.slice Cb nb N8]] W (ul t W)) :
  Calls Tryz.prog 185 #[.agg #[.string xk,.slice Ae ne ce,.slice Ak nk ck],.agg #[.string yk,.slice Be me de,.slice Bk mk dk],.pointer (some ⟨ba,0,none⟩),.pointer (some ⟨bb,0,none⟩)] w (uj key t w):=by
 have HT:=ah ht;have NS:ba<w.heap.size:=aL w _ NH;have NT:bb<w.heap.size:=aL w _ NI;clear ht;obtain⟨W,p,y,r,HW,HP,HY,NC,HK,m⟩:=MK w xk yk Ae Ak Be Bk ne nk ce ck me mk de dk
 have N9:w.heap.size≤r:=by have:=HP.o;have:=NC.o;omega
 have e1:¬p=r:=by have:=NC.o;omega
 have e2:¬r=p:=by omega
 have e3:¬y=r:=by have:=NC.o;have:=HY.o;omega
 have e4:¬r=y:=by omega
 have e5:¬p=y:=by have:=HY.o;omega
 have e6:¬y=p:=by omega
 have hpr:p<r:=by have:=NC.o;omega
 have hyr:y<r:=by have:=NC.o;have:=HY.o;omega
 have NM:=(HK.below.cell (p:=⟨ba,2,none⟩) NS).trans NH;have NN:=(HK.below.cell (p:=⟨bb,2,none⟩) NT).trans NI;have a:=ah (((((((((Kept.a_ HK.below).af NN).af NM).af HK.c5).af HK.c4).af HK.c3).af HK.c2).af HK.c1).af HK.c0 |>.drew);have s:=ah (((((Kept.nil W).af HK.t8.c0).af HK.c7).af HK.c6).drew);have m:=ah (m.drew);clear HK NM NN NH NI;go_enter Tryz.func185,Tryz.ntmps185;go_wp2_with fail;rw[← HP.o,← HW.o,← NC.o,← HY.o];refine Rg (S:=eB _) a.cj (fun hHeld=>?_);obtain⟨w1,NQ⟩:∃ v,v=W.drew:=⟨_,rfl⟩;rw[← NQ]at hHeld a s m ⊢;clear NQ;refine T4 0 9 1 10 2 11 3 12 ?_
 refine T4 6 15 7 16 8 17 9 18 ?_;refine T4 10 19 11 20 12 21 13 22 ?_;refine T2 14 23 15 24 ?_;refine wpAnyH_ready (rs:=[4,18]) (by kernel_rfl) (by simp) ?_;refine AllReadyH.cons (o:=⟨some 13,_,_,_,_,_⟩) rfl (fun K n=>?_) (AllReadyH.cons (o:=⟨some 8,_,_,_,_,_⟩) rfl (fun K n=>?_) (AllReadyH.nil))
 ·go_simp
  clear hHeld;refine Th n ?_ (fun hHeld=>?_)
  ·exact (a.alloc (.cells #[.string xk,.string yk] 9)).cj
  clear n K;obtain⟨h4,Nz⟩:∃ g,g=w1.heap.size:=⟨_,rfl⟩;obtain⟨X,L⟩:∃ v,v=w1.alloc (.cells #[.string xk,.string yk] 9):=⟨_,rfl⟩
  have i0:X.cell? ⟨h4,0,none⟩=some (.string xk):=by rw[L,Nz];go_simp
  have i1:X.cell? ⟨h4,1,none⟩=some (.string yk):=by rw[L,Nz];go_simp
  have a:ai (Kept [(⟨p,0,none⟩,.string xk),(⟨p,1,none⟩,.slice Ae ne ce),(⟨p,2,none⟩,.slice Ak nk ck),(⟨y,0,none⟩,.string yk),(⟨y,1,none⟩,.slice Be me de),(⟨y,2,none⟩,.slice Bk mk dk),(⟨ba,2,none⟩,.slice Ca na N7),(⟨bb,2,none⟩,.slice Cb nb N8)] w X):=ah (by rw[L];exact a.alloc _)
  have s:ai (Kept [(⟨r,0,none⟩,.string ⟨#[]⟩),(⟨r,1,none⟩,.slice none 0 0),(⟨r,2,none⟩,.slice none 0 0)] W X):=ah (by rw[L];exact s.alloc _)
  have m:ai (aA r X):=ah (by rw[L];exact m.alloc _)
  have NR:=ah L;rw[← L]at hHeld ⊢;rw[← Nz];clear L Nz;refine wpAnyH_ready (rs:=[5,18]) (by kernel_rfl) (by simp) ?_;refine AllReadyH.cons (o:=⟨some 14,_,_,_,_,_⟩) rfl (fun K n=>?_) (AllReadyH.cons (o:=⟨some 8,_,_,_,_,_⟩) rfl (fun K n=>?_) (AllReadyH.nil))
  ·go_simp
   (go_at_call 186;refine (M4 h4 xk yk key NE X i0 i1).mono ?_);rintro e v5 ⟨rfl,NF⟩;subst NF;clear hHeld;refine Th n ?_ (fun hHeld=>?_)
   ·exact a.cj
   clear n K;refine wpAnyH_ready (rs:=[16,18]) (by kernel_rfl) (by simp) ?_;refine AllReadyH.cons (o:=⟨some 25,_,_,_,_,_⟩) rfl (fun K n=>?_) (AllReadyH.cons (o:=⟨some 8,_,_,_,_,_⟩) rfl (fun K n=>?_) (AllReadyH.nil))
   ·go_simp
    (go_at_call 124;refine (HT.o X a.below).mono ?_);rintro e Y ⟨C,rn,D,Rk,x,rd,rfl,Ny,N⟩;obtain⟨U,M⟩:∃ z,z=X.heap.size:=⟨_,rfl⟩
    have NK:r<U:=by rw[M];exact m.1
    have V:ai (aX Y (fun b=>U≤b) t ⟨C,rn,D⟩ ⟨Rk,x,rd⟩):=aX.mono (fun b H _=>by omega) _ Ny
    have N_:ai (w.heap.size≤U):=ah (by rw[M];exact a.below.size)
    obtain⟨a,s,m⟩:=kX N a s m;clear Ny N M

    clear hHeld;refine Th n ?_ (fun hHeld=>?_)
    ·exact a.cj
    clear n K;refine Tk 17 26 ?_;refine Tc 18 (fun K n=>?_);go_simp;clear hHeld;refine Th n ?_ (fun hHeld=>?_)
    ·exact (a.alloc (.cells #[.string ⟨#[]⟩,.slice none 0 0,.slice none 0 0] 134)).cj
    clear n K;obtain⟨g,hg⟩:∃ g,g=Y.heap.size:=⟨_,rfl⟩;obtain⟨u,c⟩:∃ v,v=Y.alloc (.cells #[.string ⟨#[]⟩,.slice none 0 0,.slice none 0 0] 134):=⟨_,rfl⟩
    have A:ai (Kept [(⟨g,0,none⟩,.string ⟨#[]⟩),(⟨g,1,none⟩,.slice none 0 0),(⟨g,2,none⟩,.slice none 0 0)] W u):=by
     have h0:=Kept.a_ (s.alloc (.cells #[.string ⟨#[]⟩,.slice none 0 0,.slice none 0 0] 134)).below;rw[← c]at h0
     refine ((h0.af ?_).af ?_).af ?_ <;> (rw[c,hg];go_simp)
    have B:ai (aA g u):=⟨by rw[c,hg];simp,fun j=>by rw[c,hg];go_simp⟩
    have NJ:r<g:=by have:=m.1;omega
    have R:ai (w.heap.size≤g):=by have:=a.below.size;unfold ai;omega
    have V:ai (aX u (fun b=>U≤b∧b≠g∧b≠r) t ⟨C,rn,D⟩ ⟨Rk,x,rd⟩):=by
     unfold ai;rw[c];exact aX.later (aX.mono (fun b H hlt=>⟨H,by omega,by omega⟩) _ V) (Dt.ay _ _ _)
    have a:ai (Kept [(⟨p,0,none⟩,.string xk),(⟨p,1,none⟩,.slice Ae ne ce),(⟨p,2,none⟩,.slice Ak nk ck),(⟨y,0,none⟩,.string yk),(⟨y,1,none⟩,.slice Be me de),(⟨y,2,none⟩,.slice Bk mk dk),(⟨ba,2,none⟩,.slice Ca na N7),(⟨bb,2,none⟩,.slice Cb nb N8)] w u):=ah (by rw[c];exact a.alloc _)
    have s:ai (Kept [(⟨r,0,none⟩,.string ⟨#[]⟩),(⟨r,1,none⟩,.slice none 0 0),(⟨r,2,none⟩,.slice none 0 0)] W u):=ah (by rw[c];exact s.alloc _)
    have m:ai (aA r u):=ah (by rw[c];exact m.alloc _)
    rw[← c]at hHeld ⊢;rw[← hg];clear c hg;obtain⟨z0,z1,z2,-⟩:=A.cj;have m0:=B.2 0;have m1:=B.2 1;have m2:=B.2 2;refine Tc 19 (fun K n=>?_);go_simp;refine Th n ?_ (fun d=>?_)
    ·(try dsimp only)
     have h9:=a.past3 (p:=g) R (by simp;omega) (.string key) (.slice C rn D) (.slice Rk x rd);exact h9.cj
    clear n K hHeld;have hHeld:=d;clear d;refine Td ?_;clear hHeld z0 z1 z2 m0 m1 m2;obtain⟨W9,F⟩:∃ W,W=((u.setCell ⟨g,0,none⟩ (.string key)).setCell ⟨g,1,none⟩ (.slice C rn D)).setCell ⟨g,2,none⟩ (.slice Rk x rd):=⟨_,rfl⟩
    have h:ai (Kept [(⟨g,0,none⟩,.string key),(⟨g,1,none⟩,.slice C rn D),(⟨g,2,none⟩,.slice Rk x rd)] w W9):=by
     unfold ai;rw[F];exact (Kept.a_ a.below).gT (p:=g) R (by simp) ⟨_,A.c0⟩ ⟨_,A.c1⟩ ⟨_,A.c2⟩ _ _ _
    have k:ai (Kept [(⟨r,0,none⟩,.string ⟨#[]⟩),(⟨r,1,none⟩,.slice none 0 0),(⟨r,2,none⟩,.slice none 0 0)] w W9):=by
     unfold ai;rw[F];exact (s.rebase a.below).past3 (p:=g) R (by simp;omega) _ _ _
    have f:ai (aA r W9):=ah (by rw[F];exact ((m.set _ _).set _ _).set _ _)
    have q:ai (aX W9 (fun b=>U≤b∧b≠g∧b≠r) t ⟨C,rn,D⟩ ⟨Rk,x,rd⟩):=by
     unfold ai;rw[F];exact aX.keep (by simp[World.setCell]) (fun b H _=>((cZ _ ⟨g,2,none⟩ _ b (fun e=>H.2.1 e)).trans (cZ _ ⟨g,1,none⟩ _ b (fun e=>H.2.1 e))).trans (cZ _ ⟨g,0,none⟩ _ b (fun e=>H.2.1 e))) _ V
    rw[← F];clear F a s m V A B;go_wp2_with fail;refine Rg (S:=eB _) h.drew.cj (fun hHeld=>?_);obtain⟨w2,G⟩:∃ v,v=W9.drew:=⟨_,rfl⟩
    have h:ai (Kept [(⟨g,0,none⟩,.string key),(⟨g,1,none⟩,.slice C rn D),(⟨g,2,none⟩,.slice Rk x rd)] w w2):=ah (by rw[G];exact h.drew)
    have k:ai (Kept [(⟨r,0,none⟩,.string ⟨#[]⟩),(⟨r,1,none⟩,.slice none 0 0),(⟨r,2,none⟩,.slice none 0 0)] w w2):=ah (by rw[G];exact k.drew)
    have f:ai (aA r w2):=ah (by rw[G];exact f.drew)
    have q:ai (aX w2 (fun b=>U≤b∧b≠g∧b≠r) t ⟨C,rn,D⟩ ⟨Rk,x,rd⟩):=ah (by rw[G];exact aX.later q (bN).drew)
    rw[← G]at hHeld ⊢;clear G;refine T3 0 27 1 28 2 29 ?_;refine Tc 3 (fun K n=>?_);go_simp;(go_at_call 136;refine (iO C Rk rn x D rd _).mono ?_);rintro e NA ⟨rfl,O⟩;obtain⟨h,k,f,q⟩:=iR O h k f q;obtain⟨y0,y1,y2,-⟩:=k.cj;have n0:=f.2 0;have n1:=f.2 1;have n2:=f.2 2;clear O;clear hHeld;refine Th n ?_ (fun hHeld=>?_)
    ·exact h.cj
    clear n K;refine Tk 4 31 ?_;refine Tc 5 (fun K n=>?_);go_simp;refine Th n ?_ (fun d=>?_)
    ·(try dsimp only)
     have h9:=h.past3 (p:=r) N9 (by simp;omega) (.string key) (.slice C rn D) (.slice Rk x rd);exact h9.cj
    clear n K hHeld;have hHeld:=d;clear d;refine Tk 6 7 ?_;refine Td ?_;clear hHeld;obtain⟨J,i⟩:∃ W,W=((NA.setCell ⟨r,0,none⟩ (.string key)).setCell ⟨r,1,none⟩ (.slice C rn D)).setCell ⟨r,2,none⟩ (.slice Rk x rd):=⟨_,rfl⟩;have Z:=jF i k.below N9
    have l0:J.cell? ⟨r,0,none⟩=some (.string key):=by rw[i];go_simp
    have l1:J.cell? ⟨r,1,none⟩=some (.slice C rn D):=by rw[i];go_simp
    have l2:J.cell? ⟨r,2,none⟩=some (.slice Rk x rd):=by rw[i];go_simp
    have Q:ai (aX J (fun b=>w.heap.size≤b) t ⟨C,rn,D⟩ ⟨Rk,x,rd⟩):=by
     unfold ai;rw[i];exact aX.mono (fun b H _=>aN N_ H.1) _ (aX.keep (by simp[World.setCell]) (fun b H _=>((cZ _ ⟨r,2,none⟩ _ b (fun e=>H.2.2 e)).trans (cZ _ ⟨r,1,none⟩ _ b (fun e=>H.2.2 e))).trans (cZ _ ⟨r,0,none⟩ _ b (fun e=>H.2.2 e))) _ q)
    clear y0 y1 y2 n0 n1 n2;rw[← i];clear i;go_wp2_with fail;refine bodyPost_ret (v:=.tuple #[.agg #[.string key,.slice C rn D,.slice Rk x rd],.bool (!decide (rn=0∧x=0))]) (by simp[results,Tryz.results185,go_sem,l0,l1,l2]) rfl ⟨C,rn,D,Rk,x,rd,rfl,Q,Z⟩
   ·go_simp
    clear hHeld;refine Th n ?_ (fun hHeld=>?_)
    ·exact (a.alloc (.cells #[.string ⟨#[]⟩,.slice none 0 0,.slice none 0 0] 134)).cj
    clear n K;obtain⟨g,hg⟩:∃ g,g=X.heap.size:=⟨_,rfl⟩;obtain⟨u,c⟩:∃ v,v=X.alloc (.cells #[.string ⟨#[]⟩,.slice none 0 0,.slice none 0 0] 134):=⟨_,rfl⟩
    have A:ai (Kept [(⟨g,0,none⟩,.string ⟨#[]⟩),(⟨g,1,none⟩,.slice none 0 0),(⟨g,2,none⟩,.slice none 0 0)] W u):=by
     have h0:=Kept.a_ (s.alloc (.cells #[.string ⟨#[]⟩,.slice none 0 0,.slice none 0 0] 134)).below;rw[← c]at h0
     refine ((h0.af ?_).af ?_).af ?_ <;> (rw[c,hg];go_simp)
    have B:ai (aA g u):=⟨by rw[c,hg];simp,fun j=>by rw[c,hg];go_simp⟩
    have NJ:r<g:=by have:=m.1;omega
    have R:ai (w.heap.size≤g):=by have:=a.below.size;unfold ai;omega
    have a:ai (Kept [(⟨p,0,none⟩,.string xk),(⟨p,1,none⟩,.slice Ae ne ce),(⟨p,2,none⟩,.slice Ak nk ck),(⟨y,0,none⟩,.string yk),(⟨y,1,none⟩,.slice Be me de),(⟨y,2,none⟩,.slice Bk mk dk),(⟨ba,2,none⟩,.slice Ca na N7),(⟨bb,2,none⟩,.slice Cb nb N8)] w u):=ah (by rw[c];exact a.alloc _)
    have s:ai (Kept [(⟨r,0,none⟩,.string ⟨#[]⟩),(⟨r,1,none⟩,.slice none 0 0),(⟨r,2,none⟩,.slice none 0 0)] W u):=ah (by rw[c];exact s.alloc _)
    have m:ai (aA r u):=ah (by rw[c];exact m.alloc _)
    rw[← c]at hHeld ⊢;rw[← hg];clear c hg;refine Tc 16 (fun K n=>?_);go_simp;(go_at_call 124;refine (HT.o u a.below).mono ?_);rintro e Y ⟨C,rn,D,Rk,x,rd,rfl,Ny,N⟩;obtain⟨U,M⟩:∃ z,z=u.heap.size:=⟨_,rfl⟩
    have NK:r<U:=by rw[M];exact m.1
    have NP:g<U:=by rw[M];exact B.1
    have V:ai (aX Y (fun b=>U≤b∧b≠g∧b≠r) t ⟨C,rn,D⟩ ⟨Rk,x,rd⟩):=aX.mono (fun b H _=>⟨by omega,by omega,by omega⟩) _ Ny
    have N_:ai (w.heap.size≤U):=ah (by rw[M];exact a.below.size)
    obtain⟨a,s,m,A,B⟩:=jo N a s m A B;clear Ny N M;obtain⟨z0,z1,z2,-⟩:=A.cj;have m0:=B.2 0;have m1:=B.2 1;have m2:=B.2 2;clear hHeld;refine Th n ?_ (fun hHeld=>?_)
    ·exact a.cj
    clear n K;refine Tk 17 26 ?_;refine Tc 19 (fun K n=>?_);go_simp;refine Th n ?_ (fun d=>?_)
    ·(try dsimp only)
     have h9:=a.past3 (p:=g) R (by simp;omega) (.string key) (.slice C rn D) (.slice Rk x rd);exact h9.cj
    clear n K hHeld;have hHeld:=d;clear d;refine Td ?_;clear hHeld z0 z1 z2 m0 m1 m2;obtain⟨W9,F⟩:∃ W,W=((Y.setCell ⟨g,0,none⟩ (.string key)).setCell ⟨g,1,none⟩ (.slice C rn D)).setCell ⟨g,2,none⟩ (.slice Rk x rd):=⟨_,rfl⟩
    have h:ai (Kept [(⟨g,0,none⟩,.string key),(⟨g,1,none⟩,.slice C rn D),(⟨g,2,none⟩,.slice Rk x rd)] w W9):=by
     unfold ai;rw[F];exact (Kept.a_ a.below).gT (p:=g) R (by simp) ⟨_,A.c0⟩ ⟨_,A.c1⟩ ⟨_,A.c2⟩ _ _ _
    have k:ai (Kept [(⟨r,0,none⟩,.string ⟨#[]⟩),(⟨r,1,none⟩,.slice none 0 0),(⟨r,2,none⟩,.slice none 0 0)] w W9):=by
     unfold ai;rw[F];exact (s.rebase a.below).past3 (p:=g) R (by simp;omega) _ _ _
    have f:ai (aA r W9):=ah (by rw[F];exact ((m.set _ _).set _ _).set _ _)
    have q:ai (aX W9 (fun b=>U≤b∧b≠g∧b≠r) t ⟨C,rn,D⟩ ⟨Rk,x,rd⟩):=by
     unfold ai;rw[F];exact aX.keep (by simp[World.setCell]) (fun b H _=>((cZ _ ⟨g,2,none⟩ _ b (fun e=>H.2.1 e)).trans (cZ _ ⟨g,1,none⟩ _ b (fun e=>H.2.1 e))).trans (cZ _ ⟨g,0,none⟩ _ b (fun e=>H.2.1 e))) _ V
    rw[← F];clear F a s m V A B;go_wp2_with fail;refine Rg (S:=eB _) h.drew.cj (fun hHeld=>?_);obtain⟨w2,G⟩:∃ v,v=W9.drew:=⟨_,rfl⟩
    have h:ai (Kept [(⟨g,0,none⟩,.string key),(⟨g,1,none⟩,.slice C rn D),(⟨g,2,none⟩,.slice Rk x rd)] w w2):=ah (by rw[G];exact h.drew)
    have k:ai (Kept [(⟨r,0,none⟩,.string ⟨#[]⟩),(⟨r,1,none⟩,.slice none 0 0),(⟨r,2,none⟩,.slice none 0 0)] w w2):=ah (by rw[G];exact k.drew)
    have f:ai (aA r w2):=ah (by rw[G];exact f.drew)
    have q:ai (aX w2 (fun b=>U≤b∧b≠g∧b≠r) t ⟨C,rn,D⟩ ⟨Rk,x,rd⟩):=ah (by rw[G];exact aX.later q (bN).drew)
    rw[← G]at hHeld ⊢;clear G;refine T3 0 27 1 28 2 29 ?_;refine Tc 3 (fun K n=>?_);go_simp;(go_at_call 136;refine (iO C Rk rn x D rd _).mono ?_);rintro e NA ⟨rfl,O⟩;obtain⟨h,k,f,q⟩:=iR O h k f q;obtain⟨y0,y1,y2,-⟩:=k.cj;have n0:=f.2 0;have n1:=f.2 1;have n2:=f.2 2;clear O;clear hHeld;refine Th n ?_ (fun hHeld=>?_)
    ·exact h.cj
    clear n K;refine Tk 4 31 ?_;refine Tc 5 (fun K n=>?_);go_simp;refine Th n ?_ (fun d=>?_)
    ·(try dsimp only)
     have h9:=h.past3 (p:=r) N9 (by simp;omega) (.string key) (.slice C rn D) (.slice Rk x rd);exact h9.cj
    clear n K hHeld;have hHeld:=d;clear d;refine Tk 6 7 ?_;refine Td ?_;clear hHeld;obtain⟨J,i⟩:∃ W,W=((NA.setCell ⟨r,0,none⟩ (.string key)).setCell ⟨r,1,none⟩ (.slice C rn D)).setCell ⟨r,2,none⟩ (.slice Rk x rd):=⟨_,rfl⟩;have Z:=jF i k.below N9
    have l0:J.cell? ⟨r,0,none⟩=some (.string key):=by rw[i];go_simp
    have l1:J.cell? ⟨r,1,none⟩=some (.slice C rn D):=by rw[i];go_simp
    have l2:J.cell? ⟨r,2,none⟩=some (.slice Rk x rd):=by rw[i];go_simp
    have Q:ai (aX J (fun b=>w.heap.size≤b) t ⟨C,rn,D⟩ ⟨Rk,x,rd⟩):=by
     unfold ai;rw[i];exact aX.mono (fun b H _=>aN N_ H.1) _ (aX.keep (by simp[World.setCell]) (fun b H _=>((cZ _ ⟨r,2,none⟩ _ b (fun e=>H.2.2 e)).trans (cZ _ ⟨r,1,none⟩ _ b (fun e=>H.2.2 e))).trans (cZ _ ⟨r,0,none⟩ _ b (fun e=>H.2.2 e))) _ q)
    clear y0 y1 y2 n0 n1 n2;rw[← i];clear i;go_wp2_with fail;refine bodyPost_ret (v:=.tuple #[.agg #[.string key,.slice C rn D,.slice Rk x rd],.bool (!decide (rn=0∧x=0))]) (by simp[results,Tryz.results185,go_sem,l0,l1,l2]) rfl ⟨C,rn,D,Rk,x,rd,rfl,Q,Z⟩
  ·go_simp
   clear hHeld;refine Th n ?_ (fun hHeld=>?_)
   ·exact (a.alloc (.cells #[.string ⟨#[]⟩,.slice none 0 0,.slice none 0 0] 134)).cj
   clear n K;obtain⟨g,hg⟩:∃ g,g=X.heap.size:=⟨_,rfl⟩;obtain⟨u,c⟩:∃ v,v=X.alloc (.cells #[.string ⟨#[]⟩,.slice none 0 0,.slice none 0 0] 134):=⟨_,rfl⟩
   have NG:av X u:=by rw[c];exact Dt.ay _ _ _
   replace i0:=(NG.cell (p:=⟨h4,0,none⟩) (aL X _ i0)).trans i0
   replace i1:=(NG.cell (p:=⟨h4,1,none⟩) (aL X _ i1)).trans i1
   have A:ai (Kept [(⟨g,0,none⟩,.string ⟨#[]⟩),(⟨g,1,none⟩,.slice none 0 0),(⟨g,2,none⟩,.slice none 0 0)] W u):=by
    have h0:=Kept.a_ (s.alloc (.cells #[.string ⟨#[]⟩,.slice none 0 0,.slice none 0 0] 134)).below;rw[← c]at h0
    refine ((h0.af ?_).af ?_).af ?_ <;> (rw[c,hg];go_simp)
   have B:ai (aA g u):=⟨by rw[c,hg];simp,fun j=>by rw[c,hg];go_simp⟩
   have NJ:r<g:=by have:=m.1;omega
   have R:ai (w.heap.size≤g):=by have:=a.below.size;unfold ai;omega
   have a:ai (Kept [(⟨p,0,none⟩,.string xk),(⟨p,1,none⟩,.slice Ae ne ce),(⟨p,2,none⟩,.slice Ak nk ck),(⟨y,0,none⟩,.string yk),(⟨y,1,none⟩,.slice Be me de),(⟨y,2,none⟩,.slice Bk mk dk),(⟨ba,2,none⟩,.slice Ca na N7),(⟨bb,2,none⟩,.slice Cb nb N8)] w u):=ah (by rw[c];exact a.alloc _)
   have s:ai (Kept [(⟨r,0,none⟩,.string ⟨#[]⟩),(⟨r,1,none⟩,.slice none 0 0),(⟨r,2,none⟩,.slice none 0 0)] W u):=ah (by rw[c];exact s.alloc _)
   have m:ai (aA r u):=ah (by rw[c];exact m.alloc _)
   rw[← c]at hHeld ⊢;rw[← hg];clear c hg;refine Tc 5 (fun K n=>?_);go_simp;(go_at_call 186;refine (M4 h4 xk yk key NE u i0 i1).mono ?_);rintro e v5 ⟨rfl,NF⟩;subst NF;clear hHeld;refine Th n ?_ (fun hHeld=>?_)
   ·exact a.cj
   clear n K;refine Tc 16 (fun K n=>?_);go_simp;(go_at_call 124;refine (HT.o u a.below).mono ?_);rintro e Y ⟨C,rn,D,Rk,x,rd,rfl,Ny,N⟩;obtain⟨U,M⟩:∃ z,z=u.heap.size:=⟨_,rfl⟩
   have NK:r<U:=by rw[M];exact m.1
   have NP:g<U:=by rw[M];exact B.1
   have V:ai (aX Y (fun b=>U≤b∧b≠g∧b≠r) t ⟨C,rn,D⟩ ⟨Rk,x,rd⟩):=aX.mono (fun b H _=>⟨by omega,by omega,by omega⟩) _ Ny
   have N_:ai (w.heap.size≤U):=ah (by rw[M];exact a.below.size)
   obtain⟨a,s,m,A,B⟩:=jo N a s m A B;clear Ny N M;obtain⟨z0,z1,z2,-⟩:=A.cj;have m0:=B.2 0;have m1:=B.2 1;have m2:=B.2 2;clear hHeld;refine Th n ?_ (fun hHeld=>?_)
   ·exact a.cj
   clear n K;refine Tk 17 26 ?_;refine Tc 19 (fun K n=>?_);go_simp;refine Th n ?_ (fun d=>?_)
   ·(try dsimp only)
    have h9:=a.past3 (p:=g) R (by simp;omega) (.string key) (.slice C rn D) (.slice Rk x rd);exact h9.cj
   clear n K hHeld;have hHeld:=d;clear d;refine Td ?_;clear hHeld z0 z1 z2 m0 m1 m2;obtain⟨W9,F⟩:∃ W,W=((Y.setCell ⟨g,0,none⟩ (.string key)).setCell ⟨g,1,none⟩ (.slice C rn D)).setCell ⟨g,2,none⟩ (.slice Rk x rd):=⟨_,rfl⟩
   have h:ai (Kept [(⟨g,0,none⟩,.string key),(⟨g,1,none⟩,.slice C rn D),(⟨g,2,none⟩,.slice Rk x rd)] w W9):=by
    unfold ai;rw[F];exact (Kept.a_ a.below).gT (p:=g) R (by simp) ⟨_,A.c0⟩ ⟨_,A.c1⟩ ⟨_,A.c2⟩ _ _ _
   have k:ai (Kept [(⟨r,0,none⟩,.string ⟨#[]⟩),(⟨r,1,none⟩,.slice none 0 0),(⟨r,2,none⟩,.slice none 0 0)] w W9):=by
    unfold ai;rw[F];exact (s.rebase a.below).past3 (p:=g) R (by simp;omega) _ _ _
   have f:ai (aA r W9):=ah (by rw[F];exact ((m.set _ _).set _ _).set _ _)
   have q:ai (aX W9 (fun b=>U≤b∧b≠g∧b≠r) t ⟨C,rn,D⟩ ⟨Rk,x,rd⟩):=by
    unfold ai;rw[F];exact aX.keep (by simp[World.setCell]) (fun b H _=>((cZ _ ⟨g,2,none⟩ _ b (fun e=>H.2.1 e)).trans (cZ _ ⟨g,1,none⟩ _ b (fun e=>H.2.1 e))).trans (cZ _ ⟨g,0,none⟩ _ b (fun e=>H.2.1 e))) _ V
   rw[← F];clear F a s m V A B;go_wp2_with fail;refine Rg (S:=eB _) h.drew.cj (fun hHeld=>?_);obtain⟨w2,G⟩:∃ v,v=W9.drew:=⟨_,rfl⟩
   have h:ai (Kept [(⟨g,0,none⟩,.string key),(⟨g,1,none⟩,.slice C rn D),(⟨g,2,none⟩,.slice Rk x rd)] w w2):=ah (by rw[G];exact h.drew)
   have k:ai (Kept [(⟨r,0,none⟩,.string ⟨#[]⟩),(⟨r,1,none⟩,.slice none 0 0),(⟨r,2,none⟩,.slice none 0 0)] w w2):=ah (by rw[G];exact k.drew)
   have f:ai (aA r w2):=ah (by rw[G];exact f.drew)
   have q:ai (aX w2 (fun b=>U≤b∧b≠g∧b≠r) t ⟨C,rn,D⟩ ⟨Rk,x,rd⟩):=ah (by rw[G];exact aX.later q (bN).drew)
   rw[← G]at hHeld ⊢;clear G;refine T3 0 27 1 28 2 29 ?_;refine Tc 3 (fun K n=>?_);go_simp;(go_at_call 136;refine (iO C Rk rn x D rd _).mono ?_);rintro e NA ⟨rfl,O⟩;obtain⟨h,k,f,q⟩:=iR O h k f q;obtain⟨y0,y1,y2,-⟩:=k.cj;have n0:=f.2 0;have n1:=f.2 1;have n2:=f.2 2;clear O;clear hHeld;refine Th n ?_ (fun hHeld=>?_)
   ·exact h.cj
   clear n K;refine Tk 4 31 ?_;refine Tc 5 (fun K n=>?_);go_simp;refine Th n ?_ (fun d=>?_)
   ·(try dsimp only)
    have h9:=h.past3 (p:=r) N9 (by simp;omega) (.string key) (.slice C rn D) (.slice Rk x rd);exact h9.cj
   clear n K hHeld;have hHeld:=d;clear d;refine Tk 6 7 ?_;refine Td ?_;clear hHeld;obtain⟨J,i⟩:∃ W,W=((NA.setCell ⟨r,0,none⟩ (.string key)).setCell ⟨r,1,none⟩ (.slice C rn D)).setCell ⟨r,2,none⟩ (.slice Rk x rd):=⟨_,rfl⟩;have Z:=jF i k.below N9
   have l0:J.cell? ⟨r,0,none⟩=some (.string key):=by rw[i];go_simp
   have l1:J.cell? ⟨r,1,none⟩=some (.slice C rn D):=by rw[i];go_simp
   have l2:J.cell? ⟨r,2,none⟩=some (.slice Rk x rd):=by rw[i];go_simp
   have Q:ai (aX J (fun b=>w.heap.size≤b) t ⟨C,rn,D⟩ ⟨Rk,x,rd⟩):=by
    unfold ai;rw[i];exact aX.mono (fun b H _=>aN N_ H.1) _ (aX.keep (by simp[World.setCell]) (fun b H _=>((cZ _ ⟨r,2,none⟩ _ b (fun e=>H.2.2 e)).trans (cZ _ ⟨r,1,none⟩ _ b (fun e=>H.2.2 e))).trans (cZ _ ⟨r,0,none⟩ _ b (fun e=>H.2.2 e))) _ q)
   clear y0 y1 y2 n0 n1 n2;rw[← i];clear i;go_wp2_with fail;refine bodyPost_ret (v:=.tuple #[.agg #[.string key,.slice C rn D,.slice Rk x rd],.bool (!decide (rn=0∧x=0))]) (by simp[results,Tryz.results185,go_sem,l0,l1,l2]) rfl ⟨C,rn,D,Rk,x,rd,rfl,Q,Z⟩
 ·go_simp
  clear hHeld;refine Th n ?_ (fun hHeld=>?_)
  ·exact (a.alloc (.cells #[.string ⟨#[]⟩,.slice none 0 0,.slice none 0 0] 134)).cj
  clear n K;obtain⟨g,hg⟩:∃ g,g=w1.heap.size:=⟨_,rfl⟩;obtain⟨u,c⟩:∃ v,v=w1.alloc (.cells #[.string ⟨#[]⟩,.slice none 0 0,.slice none 0 0] 134):=⟨_,rfl⟩
  have A:ai (Kept [(⟨g,0,none⟩,.string ⟨#[]⟩),(⟨g,1,none⟩,.slice none 0 0),(⟨g,2,none⟩,.slice none 0 0)] W u):=by
   have h0:=Kept.a_ (s.alloc (.cells #[.string ⟨#[]⟩,.slice none 0 0,.slice none 0 0] 134)).below;rw[← c]at h0
   refine ((h0.af ?_).af ?_).af ?_ <;> (rw[c,hg];go_simp)
  have B:ai (aA g u):=⟨by rw[c,hg];simp,fun j=>by rw[c,hg];go_simp⟩
  have NJ:r<g:=by have:=m.1;omega
  have R:ai (w.heap.size≤g):=by have:=a.below.size;unfold ai;omega
  have a:ai (Kept [(⟨p,0,none⟩,.string xk),(⟨p,1,none⟩,.slice Ae ne ce),(⟨p,2,none⟩,.slice Ak nk ck),(⟨y,0,none⟩,.string yk),(⟨y,1,none⟩,.slice Be me de),(⟨y,2,none⟩,.slice Bk mk dk),(⟨ba,2,none⟩,.slice Ca na N7),(⟨bb,2,none⟩,.slice Cb nb N8)] w u):=ah (by rw[c];exact a.alloc _)
  have s:ai (Kept [(⟨r,0,none⟩,.string ⟨#[]⟩),(⟨r,1,none⟩,.slice none 0 0),(⟨r,2,none⟩,.slice none 0 0)] W u):=ah (by rw[c];exact s.alloc _)
  have m:ai (aA r u):=ah (by rw[c];exact m.alloc _)
  rw[← c]at hHeld ⊢;rw[← hg];clear c hg;refine Tc 4 (fun K n=>?_);go_simp;clear hHeld;refine Th n ?_ (fun hHeld=>?_)
  ·exact (a.alloc (.cells #[.string xk,.string yk] 9)).cj
  clear n K;obtain⟨h4,Nz⟩:∃ g,g=u.heap.size:=⟨_,rfl⟩;obtain⟨X,L⟩:∃ v,v=u.alloc (.cells #[.string xk,.string yk] 9):=⟨_,rfl⟩
  have i0:X.cell? ⟨h4,0,none⟩=some (.string xk):=by rw[L,Nz];go_simp
  have i1:X.cell? ⟨h4,1,none⟩=some (.string yk):=by rw[L,Nz];go_simp
  have a:ai (Kept [(⟨p,0,none⟩,.string xk),(⟨p,1,none⟩,.slice Ae ne ce),(⟨p,2,none⟩,.slice Ak nk ck),(⟨y,0,none⟩,.string yk),(⟨y,1,none⟩,.slice Be me de),(⟨y,2,none⟩,.slice Bk mk dk),(⟨ba,2,none⟩,.slice Ca na N7),(⟨bb,2,none⟩,.slice Cb nb N8)] w X):=ah (by rw[L];exact a.alloc _)
  have s:ai (Kept [(⟨r,0,none⟩,.string ⟨#[]⟩),(⟨r,1,none⟩,.slice none 0 0),(⟨r,2,none⟩,.slice none 0 0)] W X):=ah (by rw[L];exact s.alloc _)
  have m:ai (aA r X):=ah (by rw[L];exact m.alloc _)
  have A:ai (Kept [(⟨g,0,none⟩,.string ⟨#[]⟩),(⟨g,1,none⟩,.slice none 0 0),(⟨g,2,none⟩,.slice none 0 0)] W X):=ah (by rw[L];exact A.alloc _)
  have B:ai (aA g X):=ah (by rw[L];exact B.alloc _)
  have NR:=ah L;rw[← L]at hHeld ⊢;rw[← Nz];clear L Nz;refine Tc 5 (fun K n=>?_);go_simp;(go_at_call 186;refine (M4 h4 xk yk key NE X i0 i1).mono ?_);rintro e v5 ⟨rfl,NF⟩;subst NF;clear hHeld;refine Th n ?_ (fun hHeld=>?_)
  ·exact a.cj
  clear n K;refine Tc 16 (fun K n=>?_);go_simp;(go_at_call 124;refine (HT.o X a.below).mono ?_);rintro e Y ⟨C,rn,D,Rk,x,rd,rfl,Ny,N⟩;obtain⟨U,M⟩:∃ z,z=X.heap.size:=⟨_,rfl⟩
  have NK:r<U:=by rw[M];exact m.1
  have NP:g<U:=by rw[M];exact B.1
  have V:ai (aX Y (fun b=>U≤b∧b≠g∧b≠r) t ⟨C,rn,D⟩ ⟨Rk,x,rd⟩):=aX.mono (fun b H _=>⟨by omega,by omega,by omega⟩) _ Ny
  have N_:ai (w.heap.size≤U):=ah (by rw[M];exact a.below.size)
  obtain⟨a,s,m,A,B⟩:=jo N a s m A B;clear Ny N M;obtain⟨z0,z1,z2,-⟩:=A.cj;have m0:=B.2 0;have m1:=B.2 1;have m2:=B.2 2;clear hHeld;refine Th n ?_ (fun hHeld=>?_)
  ·exact a.cj
  clear n K;refine Tk 17 26 ?_;refine Tc 19 (fun K n=>?_);go_simp;refine Th n ?_ (fun d=>?_)
  ·(try dsimp only)
   have h9:=a.past3 (p:=g) R (by simp;omega) (.string key) (.slice C rn D) (.slice Rk x rd);exact h9.cj
  clear n K hHeld;have hHeld:=d;clear d;refine Td ?_;clear hHeld z0 z1 z2 m0 m1 m2;obtain⟨W9,F⟩:∃ W,W=((Y.setCell ⟨g,0,none⟩ (.string key)).setCell ⟨g,1,none⟩ (.slice C rn D)).setCell ⟨g,2,none⟩ (.slice Rk x rd):=⟨_,rfl⟩
  have h:ai (Kept [(⟨g,0,none⟩,.string key),(⟨g,1,none⟩,.slice C rn D),(⟨g,2,none⟩,.slice Rk x rd)] w W9):=by
   unfold ai;rw[F];exact (Kept.a_ a.below).gT (p:=g) R (by simp) ⟨_,A.c0⟩ ⟨_,A.c1⟩ ⟨_,A.c2⟩ _ _ _
  have k:ai (Kept [(⟨r,0,none⟩,.string ⟨#[]⟩),(⟨r,1,none⟩,.slice none 0 0),(⟨r,2,none⟩,.slice none 0 0)] w W9):=by
   unfold ai;rw[F];exact (s.rebase a.below).past3 (p:=g) R (by simp;omega) _ _ _
  have f:ai (aA r W9):=ah (by rw[F];exact ((m.set _ _).set _ _).set _ _)
  have q:ai (aX W9 (fun b=>U≤b∧b≠g∧b≠r) t ⟨C,rn,D⟩ ⟨Rk,x,rd⟩):=by
   unfold ai;rw[F];exact aX.keep (by simp[World.setCell]) (fun b H _=>((cZ _ ⟨g,2,none⟩ _ b (fun e=>H.2.1 e)).trans (cZ _ ⟨g,1,none⟩ _ b (fun e=>H.2.1 e))).trans (cZ _ ⟨g,0,none⟩ _ b (fun e=>H.2.1 e))) _ V
  rw[← F];clear F a s m V A B;go_wp2_with fail;refine Rg (S:=eB _) h.drew.cj (fun hHeld=>?_);obtain⟨w2,G⟩:∃ v,v=W9.drew:=⟨_,rfl⟩
  have h:ai (Kept [(⟨g,0,none⟩,.string key),(⟨g,1,none⟩,.slice C rn D),(⟨g,2,none⟩,.slice Rk x rd)] w w2):=ah (by rw[G];exact h.drew)
  have k:ai (Kept [(⟨r,0,none⟩,.string ⟨#[]⟩),(⟨r,1,none⟩,.slice none 0 0),(⟨r,2,none⟩,.slice none 0 0)] w w2):=ah (by rw[G];exact k.drew)
  have f:ai (aA r w2):=ah (by rw[G];exact f.drew)
  have q:ai (aX w2 (fun b=>U≤b∧b≠g∧b≠r) t ⟨C,rn,D⟩ ⟨Rk,x,rd⟩):=ah (by rw[G];exact aX.later q (bN).drew)
  rw[← G]at hHeld ⊢;clear G;refine T3 0 27 1 28 2 29 ?_;refine Tc 3 (fun K n=>?_);go_simp;(go_at_call 136;refine (iO C Rk rn x D rd _).mono ?_);rintro e NA ⟨rfl,O⟩;obtain⟨h,k,f,q⟩:=iR O h k f q;obtain⟨y0,y1,y2,-⟩:=k.cj;have n0:=f.2 0;have n1:=f.2 1;have n2:=f.2 2;clear O;clear hHeld;refine Th n ?_ (fun hHeld=>?_)
  ·exact h.cj
  clear n K;refine Tk 4 31 ?_;refine Tc 5 (fun K n=>?_);go_simp;refine Th n ?_ (fun d=>?_)
  ·(try dsimp only)
   have h9:=h.past3 (p:=r) N9 (by simp;omega) (.string key) (.slice C rn D) (.slice Rk x rd);exact h9.cj
  clear n K hHeld;have hHeld:=d;clear d;refine Tk 6 7 ?_;refine Td ?_;clear hHeld;obtain⟨J,i⟩:∃ W,W=((NA.setCell ⟨r,0,none⟩ (.string key)).setCell ⟨r,1,none⟩ (.slice C rn D)).setCell ⟨r,2,none⟩ (.slice Rk x rd):=⟨_,rfl⟩;have Z:=jF i k.below N9
  have l0:J.cell? ⟨r,0,none⟩=some (.string key):=by rw[i];go_simp
  have l1:J.cell? ⟨r,1,none⟩=some (.slice C rn D):=by rw[i];go_simp
  have l2:J.cell? ⟨r,2,none⟩=some (.slice Rk x rd):=by rw[i];go_simp
  have Q:ai (aX J (fun b=>w.heap.size≤b) t ⟨C,rn,D⟩ ⟨Rk,x,rd⟩):=by
   unfold ai;rw[i];exact aX.mono (fun b H _=>aN N_ H.1) _ (aX.keep (by simp[World.setCell]) (fun b H _=>((cZ _ ⟨r,2,none⟩ _ b (fun e=>H.2.2 e)).trans (cZ _ ⟨r,1,none⟩ _ b (fun e=>H.2.2 e))).trans (cZ _ ⟨r,0,none⟩ _ b (fun e=>H.2.2 e))) _ q)
  clear y0 y1 y2 n0 n1 n2;rw[← i];clear i;go_wp2_with fail;refine bodyPost_ret (v:=.tuple #[.agg #[.string key,.slice C rn D,.slice Rk x rd],.bool (!decide (rn=0∧x=0))]) (by simp[results,Tryz.results185,go_sem,l0,l1,l2]) rfl ⟨C,rn,D,Rk,x,rd,rfl,Q,Z⟩
end Cs
end Go.Proofs.YtgeafpaognhokaaGreat
