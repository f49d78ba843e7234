/- Changes: is there room: the document's. -/
import Derived.Test.YtgeafpaognhokaaGreatG00
import Derived.Test.YtgeafpaognhokaaGreatG60
namespace Go.Proofs.YtgeafpaognhokaaGreat
open ChangeShapes WideShapes ChangeAt RowKit
namespace Cs
open Tr Cx Sp Rw Classical
noncomputable def pR (t:T) (o:jK):Bool:=decide (brings o.act∧((∃ (k:Nat) (h:k<(bL o).length),24≤(aI t ((bL o).take k)).ks.length∧(bL o)[k]∉keysOf (aI t ((bL o).take k)).ks)∨(o.act=5∧24≤(aI t (bL o)).es.length)))
theorem MU:(Tryz.prog.info? 9).map (fun i=>(i.zero,i.size,i.bytes))=some (some (.string ⟨#[]⟩),1,16):=by kernel_rfl
theorem wP (A:Option Addr) (n c k:Nat) (d:k≤c) (W:World):(Instr.slice 25 (.slice A n c) none (some (.int .i64 (k:Nat))) none).run Tryz.prog W = .ok (.slice A k c) W:=by
 obtain⟨i0,a,hz0,b,hz2⟩:=dO MU;exact xU (P:=Tryz.prog) 25 9 1 Tryz.underlying25 a b A n c k d W
theorem Bo {w:World} {B n c k:Nat} {A:Option Addr} {l:List ByteArray} (h:Rd w B 1 A n c (strs l)) (f:k≤n):Rd w B 1 A k c (strs (l.take k)):=by
 have hl:=bM h;refine⟨?_,aN f h.cap,fun u hu=>h.one u ?_,fun h0=>?_⟩
 ·rw[DJ,l7];omega
 ·unfold Tr.strs at hu ⊢
  rw[List.map_take]at hu;exact List.mem_of_mem_take hu
 ·obtain⟨b,o,e,a,d⟩:=h.at_ (by omega)
  refine⟨b,o,e,a,fun j u hu=>d j u ?_⟩;unfold Tr.strs at hu ⊢;rw[List.map_take,List.getElem?_take]at hu
  split at hu
  ·exact hu
  ·cases hu
theorem Mf (w:World) (Ae Ak:Option Addr) (ne nk ce ck:Nat) (a:Option Addr) (d c:Nat) (b:Int) (xs:ByteArray) (e:Int):∃ (W:World) (p q:Nat),ai (W=((w.alloc (.cells #[.slice Ae ne ce,.slice Ak nk ck] 35)).alloc (.cells #[.slice a d c,.int .i64 b,.string xs,.int .i64 e] 27)))∧ai (p=w.heap.size)∧ai (q=p+1)∧ai (Kept [(⟨p,0,none⟩,.slice Ae ne ce),(⟨p,1,none⟩,.slice Ak nk ck),(⟨q,0,none⟩,.slice a d c),(⟨q,1,none⟩,.int .i64 b),(⟨q,2,none⟩,.string xs),(⟨q,3,none⟩,.int .i64 e)] w W):=by
 refine⟨_,_,_,rfl,rfl,rfl,?_⟩;have f:=Kept.a_ (show av w (((w.alloc (.cells #[.slice Ae ne ce,.slice Ak nk ck] 35)).alloc (.cells #[.slice a d c,.int .i64 b,.string xs,.int .i64 e] 27))) from ((bN).alloc (bG) _).alloc (by simp) _)
 refine ((((((f).af ?_).af ?_).af ?_).af ?_).af ?_).af ?_ <;> go_simp
set_option maxRecDepth 100000 in
set_option maxHeartbeats 4000000 in
theorem yO (t:T) (Ae Ak:Option Addr) (ne nk ce ck:Nat) (xp:List ByteArray) (xa:Int) (xs:ByteArray) (xv:Int) (xA:Option Addr) (xn xc:Nat) (w:World) (z:Bool) (hz:pR t ⟨xp,xa,xs,xv⟩=z) (ht:au 5 t) (hl:LenT reachBytes t) (hn:nodes t≤1000) (hr:aF w w.heap.size t ⟨Ae,ne,ce⟩ ⟨Ak,nk,ck⟩) (Om:xn≤900) (Oo:Rd w w.heap.size 1 xA xn xc (strs xp)) :
  Calls Tryz.prog 53 #[.agg #[.slice Ae ne ce,.slice Ak nk ck],.agg #[.slice xA xn xc,.int .i64 xa,.string xs,.int .i64 xv]] w fun e w'=>e = .returned (.bool z)∧av w w':=by
 obtain⟨W,p,q,HW,HP,HQ,c⟩:=Mf w Ae Ak ne nk ce ck xA xn xc xa xs xv;have R:=ah (aF.later hr c.below);have RX:=ah (Oo.later c.below);have HT:=ah ht;have HR0:=ah hr;have N:=ah (And.intro hn (And.intro Om hl));obtain⟨y,hy⟩:∃ y,decide (brings xa)=y:=⟨_,rfl⟩;have HY:=ah hy;have HZ:=ah hz;clear hl hr Oo ht hn Om hz hy;obtain⟨c0,c1,c2,c3,c4,c5,-⟩:=c.cj;go_enter Tryz.func53,Tryz.ntmps53;go_wp2_with fail;rw[← HW.o,← HP.o]
 try rw[← HQ.o]
 refine (jC xa W y HY).mono ?_;rintro e v1 ⟨rfl,f⟩;obtain⟨c,R,RX⟩:=kE f c R RX;clear f;clear c0 c1 c2 c3 c4 c5
 cases y with
 | false=>
  obtain rfl:z=false:=by
   rw[← HZ.o];exact aM fun h=>absurd h.1 (yD HY)
  go_wp2_with fail;go_ret;exact⟨by first | rfl | simp,c.below⟩
 | true=>
  obtain⟨c0,c1,c2,c3,c4,c5,-⟩:=c.cj;go_wp2_with fail;refine (rF xp xa xs xv xA xn xc v1 (by have:=N.o;omega) RX).mono ?_;rintro e v2 ⟨eA,em,ec,rfl,ho,Oh,f⟩;have Ow:=ah Oh.o;have RE:=ah ho.rd;clear ho Oh;obtain⟨c,R,RX⟩:=kE f c R RX;clear f;clear c0 c1 c2 c3 c4 c5;obtain⟨m,NF⟩:∃ l,l=bL ⟨xp,xa,xs,xv⟩:=⟨_,rfl⟩;rw[← NF]at RE;have NP:=ah (bM RE);have Ou:ai (em≤ec):=RE.cap
  have Od:ai ((∃ (k:Nat) (h:k<m.length),24≤(aI t (m.take k)).ks.length∧m[k]∉keysOf (aI t (m.take k)).ks)∨(xa=5∧24≤(aI t m).es.length)→z=true):=fun h=>by
   rw[← HZ.o];unfold pR;rw[← NF];exact aJ ⟨jH HY,h⟩
  have Ob:ai ((∀ (j:Nat) (h:j<m.length),j<m.length→¬(24≤(aI t (m.take j)).ks.length∧m[j]∉keysOf (aI t (m.take j)).ks))→z=decide (xa=5∧24≤(aI t m).es.length)):=fun h=>by
   rw[← HZ.o];unfold pR;rw[← NF];refine decide_eq_decide.2 ⟨fun h2=>?_,fun h2=>⟨jH HY,.inr h2⟩⟩
   rcases h2.2 with ⟨k,hk,h3⟩ | h3
   ·exact absurd h3 (h k hk hk)
   ·exact h3
  clear NF;obtain⟨c0,c1,c2,c3,c4,c5,-⟩:=c.cj;go_wp2_with fail
  go_loopw [16] (fun i wr=>∃ (k:Nat),k≤em∧i = .int .i64 k∧ai (∀ (j:Nat) (h:j<m.length),j<k→¬(24≤(aI t (m.take j)).ks.length∧m[j]∉keysOf (aI t (m.take j)).ks))∧ai (Kept [(⟨p,0,none⟩,.slice Ae ne ce),(⟨p,1,none⟩,.slice Ak nk ck),(⟨q,0,none⟩,.slice xA xn xc),(⟨q,1,none⟩,.int .i64 xa),(⟨q,2,none⟩,.string xs),(⟨q,3,none⟩,.int .i64 xv)] w wr)∧ai (av v2 wr)) (fun i _=>em-(intOf i).toNat)
  case atStart=>exact⟨0,by omega,rfl,fun j _ h=>absurd h (by omega),c,bN⟩
  case round=>
   obtain⟨k,hk,rfl,HI,NY,NC⟩:=hrel;obtain⟨wo,O4⟩:∃ W,W=wr:=⟨_,rfl⟩;subst O4;have x:=ah (aF.later R NC);have g:=ah (RE.later NC);have c:=NY;have hk4:=Ow.o;have hk5:=N.2.1;clear NY c0 c1 c2 c3 c4 c5
   by_cases NR:k<em
   ·have Oj:k<m.length:=by rw[NP.o];exact NR
    have NU:ai (∀ W,(Instr.slice 25 (.slice eA em ec) none (some (.int .i64 (k:Nat))) none).run Tryz.prog W = .ok (.slice eA k ec) W):=fun W=>wP eA em ec k (by have:=Ou.o;omega) W;have hcut9:=NU.o;have F:=ah (Bo g (oW NR))
    have NZ:ai ((m.take k).length=k):=ah (by rw[l7];omega)
    have Ox:=ah (cB HT (m.take k));have N_:ai (nodes (aI t (m.take k))≤1000):=aN (fO t (m.take k)) N.1;obtain⟨c0,c1,c2,c3,c4,c5,-⟩:=c.cj;go_wp2_with fail;clear c0 c1 c2 c3 c4 c5
    go_cut [7] (fun s9 wx=>∃ (g9:Nat) (a9 b9:SV),s9 = .pointer (some ⟨g9,0,none⟩)∧ai (LW wo g9 (aI t (m.take k)) a9 b9 wx))
    case first=>
     refine Rg (S:=eB _) c.drew.cj (fun d=>?_);obtain⟨O,n,f⟩:=mW wo;obtain⟨c,x,g,F⟩:=jb f c x g F;clear f;have NJ:ai (wo.drew=O):=n.symm;rw[← n]at d ⊢;clear n
     have r:ai (av wo O):=ah (by rw[← NJ.o];exact (bN).drew)
     clear NJ;refine T4 0 19 1 20 2 21 3 22 ?_;refine wpAnyH_ready (rs:=[4,5]) (by kernel_rfl) (by simp) ?_;refine AllReadyH.cons (o:=⟨some 23,_,_,_,_,_⟩) rfl (fun K G=>?_) (AllReadyH.cons (o:=⟨some 7,_,_,_,_,_⟩) rfl (fun K G=>?_) (AllReadyH.nil))
     ·go_simp
      (go_at_call 61;refine (jU 4 t Ae Ak ne nk ce ck O (m.take k) eA k ec NZ (by omega) F HT (by have:=N.o;omega) x).mono ?_);rintro e Nv ⟨H,C,M,Q,B,U,rfl,ho,f⟩;have HN:ai (aW Nv (fun Y=>wo.heap.size≤Y) (aI t (m.take k)) ⟨H,C,M⟩ ⟨Q,B,U⟩):=aW.mono (fun Y u _=>aN r.size u) _ ho;clear ho;obtain⟨c,x,g,F,r⟩:=jo f c x g F r;clear f;clear d;refine Th G ?_ (fun d=>?_)
      ·exact c.cj
      clear G K;refine Tc 5 (fun K G=>?_);go_simp;clear d;refine Th G ?_ (fun d=>?_)
      ·exact (c.alloc _).cj
      clear G K;obtain⟨b,Nw,u,N7,f,b0,b1⟩:=Az Nv (.slice none 0 0) (.slice none 0 0) 35;have Z:=jy u r.o;have NA:=jy u c.below;have O1:=fT u c.c0;have O3:=fT u c.c2;have HN:=ah (aW.mono (ok':=fun Y=>wo.heap.size≤Y∧Y≠b) (fun Y u NR=>⟨u,by omega⟩) _ HN);obtain⟨c,x,g,F,r,HN⟩:=pO f c x g F r HN;have HZ:=ah (((Kept.a_ r).af b1).af b0);have HF:=pu u N7;have Ol:b<Nw.heap.size:=HF.1;(try rw[← N7]at d);rw[← N7];rw[← u];clear u N7 f b0 b1;have z0:=HZ.c0;have z1:=HZ.c1;have m0:=HF.2 0;have m1:=HF.2 1;refine Tc 6 (fun K G=>?_);go_simp;refine Th G ?_ (fun v=>?_)
      ·(try dsimp only)
       have X:=c.o;have X:=X.set (a:=⟨b,0,none⟩) NA (by simp;omega) (.slice H C M);have X:=X.set (a:=⟨b,1,none⟩) NA (by simp;omega) (.slice Q B U);exact X.cj
      clear G K d;have d:=v;clear v;refine Td ?_;clear d
      have N9:ai (LW wo b (aI t (m.take k)) ⟨H,C,M⟩ ⟨Q,B,U⟩ ((Nw.setCell ⟨b,0,none⟩ (.slice H C M)).setCell ⟨b,1,none⟩ (.slice Q B U))):=by
       obtain⟨W9,A⟩:∃ W,W=((Nw.setCell ⟨b,0,none⟩ (.slice H C M)).setCell ⟨b,1,none⟩ (.slice Q B U)):=⟨_,rfl⟩;rw[← A]
       have u:av wo W9:=by
        rw[A];exact ((r.setCell (p:=⟨b,0,none⟩) Z _).setCell (p:=⟨b,1,none⟩) Z _)
       have N8:aA b W9:=by rw[A];exact (HF.set _ _).set _ _
       refine⟨Z,N8,aW.keep (by rw[A];simp[World.setCell]) (fun Y u _=>?_) _ HN,?_⟩
       ·rw[A]
        exact (cZ _ ⟨b,1,none⟩ _ Y (fun e=>u.2 e)).trans (cZ _ ⟨b,0,none⟩ _ Y (fun e=>u.2 e))
       ·refine ((Kept.a_ u).af ?_).af ?_ <;> (rw[A];go_simp)
      clear z0 z1 m0 m1;go_wp2_with fail;go_meet;exact⟨b,⟨H,C,M⟩,⟨Q,B,U⟩,rfl,N9⟩
     ·go_simp
      clear d;refine Th G ?_ (fun d=>?_)
      ·exact (c.alloc _).cj
      clear G K;obtain⟨b,Nv,u,Nz,f,b0,b1⟩:=Az O (.slice none 0 0) (.slice none 0 0) 35;have Z:=jy u r.o;have NA:=jy u c.below;have O1:=fT u c.c0;have O3:=fT u c.c2;obtain⟨c,x,g,F,r⟩:=jo f c x g F r;have HZ:=ah (((Kept.a_ r).af b1).af b0);have HF:=pu u Nz;have Ol:b<Nv.heap.size:=HF.1;(try rw[← Nz]at d);rw[← Nz];rw[← u];clear u Nz f b0 b1;refine Tc 4 (fun K G=>?_);go_simp;(go_at_call 61;refine (jU 4 t Ae Ak ne nk ce ck Nv (m.take k) eA k ec NZ (by omega) F HT (by have:=N.o;omega) x).mono ?_);rintro e Nw ⟨H,C,M,Q,B,U,rfl,ho,f⟩;have HN:ai (aW Nw (fun Y=>wo.heap.size≤Y∧Y≠b) (aI t (m.take k)) ⟨H,C,M⟩ ⟨Q,B,U⟩):=aW.mono (fun Y u _=>⟨aN r.size u,by have h:=HF.1;omega⟩) _ ho
      clear ho;obtain⟨c,x,g,F,r,HZ,HF⟩:=Eb f c x g F r HZ HF;clear f;have z0:=HZ.c0;have z1:=HZ.c1;have m0:=HF.2 0;have m1:=HF.2 1;clear d;refine Th G ?_ (fun d=>?_)
      ·exact c.cj
      clear G K;refine Tc 6 (fun K G=>?_);go_simp;refine Th G ?_ (fun v=>?_)
      ·(try dsimp only)
       have X:=c.o;have X:=X.set (a:=⟨b,0,none⟩) NA (by simp;omega) (.slice H C M);have X:=X.set (a:=⟨b,1,none⟩) NA (by simp;omega) (.slice Q B U);exact X.cj
      clear G K d;have d:=v;clear v;refine Td ?_;clear d
      have N9:ai (LW wo b (aI t (m.take k)) ⟨H,C,M⟩ ⟨Q,B,U⟩ ((Nw.setCell ⟨b,0,none⟩ (.slice H C M)).setCell ⟨b,1,none⟩ (.slice Q B U))):=by
       obtain⟨W9,A⟩:∃ W,W=((Nw.setCell ⟨b,0,none⟩ (.slice H C M)).setCell ⟨b,1,none⟩ (.slice Q B U)):=⟨_,rfl⟩;rw[← A]
       have u:av wo W9:=by
        rw[A];exact ((r.setCell (p:=⟨b,0,none⟩) Z _).setCell (p:=⟨b,1,none⟩) Z _)
       have N8:aA b W9:=by rw[A];exact (HF.set _ _).set _ _
       refine⟨Z,N8,aW.keep (by rw[A];simp[World.setCell]) (fun Y u _=>?_) _ HN,?_⟩
       ·rw[A]
        exact (cZ _ ⟨b,1,none⟩ _ Y (fun e=>u.2 e)).trans (cZ _ ⟨b,0,none⟩ _ Y (fun e=>u.2 e))
       ·refine ((Kept.a_ u).af ?_).af ?_ <;> (rw[A];go_simp)
      clear z0 z1 m0 m1;go_wp2_with fail;go_meet;exact⟨b,⟨H,C,M⟩,⟨Q,B,U⟩,rfl,N9⟩
    case rest=>
     obtain⟨V,Oq⟩:∃ W,W=wc:=⟨_,rfl⟩;subst Oq;obtain⟨b,⟨H,C,M⟩,⟨Q,B,U⟩,rfl,NK⟩:=hcut;obtain⟨NG,N8,NS,NH⟩:=NK.o;have f:=NH.below;have Ot:ai (av wo V):=f;obtain⟨c,x,g,F⟩:=jb f c x g F;clear f;have L:ai (aW V (fun k=>wo.heap.size≤k∧k≠b) (aI t (m.take k)) ⟨H,C,M⟩ ⟨Q,B,U⟩):=NS;have Rb:ai (aF V V.heap.size (aI t (m.take k)) ⟨H,C,M⟩ ⟨Q,B,U⟩):=aW.rd _ NS;have J:ai (aA b V):=N8;have HLb:ai (wo.heap.size≤b):=NG;have c:=ah ((c.af NH.c1).af NH.c0);clear NK NS NH NG N8;have Oz:=g.o;obtain⟨eb,eo,rfl,NG,hc⟩:=gL g (by omega);have e0:=hc k Oj;obtain⟨NT,Ny⟩:∃ s,s=m[k]:=⟨_,rfl⟩;rw[← Ny]at e0
     have Oa:ai ((aI t (m.take k)).ks.length=B):=by
      have h:=Rb.o;rw[← T.eta (aI t (m.take k))]at h;exact (bn h).2
     obtain⟨y5,NI⟩:∃ y,decide (NT∈keysOf (aI t (m.take k)).ks)=y:=⟨_,rfl⟩;have Oc:=ah NI;have NW:=ah (c.af e0)
     have NV:ai (¬(24≤B∧y5=false)→(∀ (j:Nat) (h:j<m.length),j<(k+1)→¬(24≤(aI t (m.take j)).ks.length∧m[j]∉keysOf (aI t (m.take j)).ks))):=fun O0 j hj hjk=>by
      by_cases e:j=k
      ·subst e
       rintro⟨h1,h2⟩;refine O0 ⟨by rw[← Oa.o];exact h1,?_⟩;rw[← NI,Ny];exact aM h2
      ·exact HI.o j hj (by omega)
     have Oy:ai (24≤B∧y5=false→z=true):=fun ⟨h1,h2⟩=>by
      refine Od (.inl ⟨k,Oj,by rw[Oa.o];exact h1,?_⟩);rw[← Ny];exact yD (NI.trans h2)
     clear Oz NG hc Ny NI e0 c;have c:=NW;clear NW;have D:ai (av v2 V):=NC.trans ((Ot.o).mono NC.size)
     by_cases NE:24≤B
     ·have NQ:decide ((24:Int)≤(B:Int))=true:=aJ (by omega)
      obtain⟨c0,c1,c2,c3,c4,c5,c6,c7,c8,-⟩:=c.cj;go_wp2_with fail;clear c0 c1 c2 c3 c4 c5 c6 c7 c8
      cases y5 with
      | false=>
       refine Rg (S:=eB _) c.drew.cj (fun d=>?_);obtain⟨O,n,f⟩:=mW V;obtain⟨c,x,g,F,Rb,J,L,D⟩:=lZ f c x g F Rb J L D;clear f;rw[← n]at d ⊢;clear n;refine T4 0 24 1 25 2 26 3 27 ?_;refine T4 4 28 5 29 6 30 7 31 ?_;refine T2 8 32 9 33 ?_;refine Tc 10 (fun K G=>?_);go_simp;(go_at_call 108;refine (xL (aI t (m.take k)) H Q C B M U NT O false Oc (LenT.few (by have:=N_.o;omega)) N_ Rb).mono ?_);rintro e Nv ⟨rfl,f⟩;obtain⟨c,x,g,F,Rb,J,L,D⟩:=lZ f c x g F Rb J L D;clear f;clear d;refine Th G ?_ (fun d=>?_)
       ·exact c.cj
       clear G K;refine T2 11 35 12 36 ?_;refine Td ?_;clear d;obtain rfl:z=true:=Oy.o ⟨NE,rfl⟩;go_wp2_with fail;go_ret;exact⟨by first | rfl | simp,c.below⟩
      | true=>
       refine Rg (S:=eB _) c.drew.cj (fun d=>?_);obtain⟨O,n,f⟩:=mW V;obtain⟨c,x,g,F,Rb,J,L,D⟩:=lZ f c x g F Rb J L D;clear f;rw[← n]at d ⊢;clear n;refine T4 0 24 1 25 2 26 3 27 ?_;refine T4 4 28 5 29 6 30 7 31 ?_;refine T2 8 32 9 33 ?_;refine Tc 10 (fun K G=>?_);go_simp;(go_at_call 108;refine (xL (aI t (m.take k)) H Q C B M U NT O true Oc (LenT.few (by have:=N_.o;omega)) N_ Rb).mono ?_);rintro e Nv ⟨rfl,f⟩;obtain⟨c,x,g,F,Rb,J,L,D⟩:=lZ f c x g F Rb J L D;clear f;clear d;refine Th G ?_ (fun d=>?_)
       ·exact c.cj
       clear G K;refine T2 11 35 12 36 ?_;refine Td ?_;clear d;have NM:=ah (NV.o (by first | (rintro⟨h8,X⟩;omega) | (rintro⟨h8,X⟩;cases X)));have NN:=ah (c.tail.tail.tail);go_wp2_with fail;go_roundw
       case rel=>exact⟨k+1,by omega,by go_num,NM,NN,D⟩
       case measure=>simp[intOf];omega
     ·have NQ:decide ((24:Int)≤(B:Int))=false:=aM (by omega)
      obtain⟨c0,c1,c2,c3,c4,c5,c6,c7,c8,-⟩:=c.cj;go_wp2_with fail;clear c0 c1 c2 c3 c4 c5 c6 c7 c8;refine Rg (S:=eB _) c.drew.cj (fun d=>?_);obtain⟨O,n,f⟩:=mW V;obtain⟨c,x,g,F,Rb,J,L,D⟩:=lZ f c x g F Rb J L D;clear f;rw[← n]at d ⊢;clear n;refine T4 0 24 1 25 2 26 3 27 ?_;refine Tk 4 28 ?_;refine U4 5 29 6 30 7 31 8 32 ?_;refine U3 9 33 10 34 11 35 ?_;refine Tk 12 36 ?_;refine Td ?_;clear d;have NM:=ah (NV.o (by first | (rintro⟨h8,X⟩;omega) | (rintro⟨h8,X⟩;cases X)));have NN:=ah (c.tail.tail.tail);go_wp2_with fail;go_roundw
      case rel=>exact⟨k+1,by omega,by go_num,NM,NN,D⟩
      case measure=>simp[intOf];omega
   ·obtain rfl:k=em:=by omega
    have Oe:=ah (Ob.o (fun j hj _=>HI.o j hj (by rw[← NP.o];exact hj)))
    by_cases h5:xa=5
    ·subst h5
     have Ox:=ah (cB HT m);have N_:ai (nodes (aI t m)≤1000):=aN (fO t m) N.1;obtain⟨c0,c1,c2,c3,c4,c5,-⟩:=c.cj;go_wp2_with fail;refine (jU 4 t Ae Ak ne nk ce ck wo m eA k ec NP (by omega) g HT (by have:=N.o;omega) x).mono ?_;rintro e O ⟨H,C,M,Q,B,U,rfl,ho,f⟩
     have Oi:(aI t m).es.length=C:=by
      have h:=ho.rd;rw[← T.eta (aI t m)]at h;exact (bn h).1
     have Ov:=ah Oi;clear ho Oi;obtain⟨c,x,g⟩:=kE f c x g;clear f;clear c0 c1 c2 c3 c4 c5
     have hfd:∀ w:World,(Instr.field 35 (.agg #[.slice H C M,.slice Q B U]) 0).run Tryz.prog w = .ok (.slice H C M) w:=fun _=>by kernel_rfl
     have Og:ai (z=decide (24≤C)):=by
      unfold ai;rw[Oe.o,Ov.o];exact decide_eq_decide.2 ⟨fun h=>h.2,fun h=>⟨by first | trivial | rfl,h⟩⟩
     by_cases NE:24≤C
     ·have NQ:decide ((24:Int)≤(C:Int))=true:=aJ (by omega)
      obtain rfl:z=true:=by rw[Og.o];exact aJ NE
      go_wp2_with fail;go_ret;exact⟨by first | rfl | simp,c.below⟩
     ·have NQ:decide ((24:Int)≤(C:Int))=false:=aM (by omega)
      obtain rfl:z=false:=by rw[Og.o];exact aM NE
      go_wp2_with fail;go_ret;exact⟨by first | rfl | simp,c.below⟩
    ·have f5:(xa==5)=false:=by simpa using h5
     obtain rfl:z=false:=by rw[Oe.o];exact aM fun h=>h5 h.1
     obtain⟨c0,c1,c2,c3,c4,c5,-⟩:=c.cj;go_wp2_with fail;go_ret;exact⟨by first | rfl | simp,c.below⟩
end Cs
end Go.Proofs.YtgeafpaognhokaaGreat
