/- Changes: is there room: the document's. -/
import Derived.Test.YtgeafpaognhokaaGreatG00
import Derived.Test.YtgeafpaognhokaaGreatG60
namespace Go.Proofs.YtgeafpaognhokaaGreat
open ChangeShapes WideShapes ChangeAt RowKit
namespace Cs
open Tr Cx Sp Rw Classical
noncomputable def pV (t:T) (o:jK):Bool:=decide (brings o.act∧((∃ (k:Nat) (h:k<(bL o).length),24≤(aI t ((bL o).take k)).ks.length∧(bL o)[k]∉keysOf (aI t ((bL o).take k)).ks)∨(o.act=5∧24≤(aI t (bL o)).es.length)))
theorem MW:(Tryz.prog.info? 9).map (fun i=>(i.zero,i.size,i.bytes))=some (some (.string ⟨#[]⟩),1,16):=by kernel_rfl
theorem wR (A:Option Addr) (n c k:Nat) (d:k≤c) (W:World):(Instr.slice 25 (.slice A n c) none (some (.int .i64 (k:Nat))) none).run Tryz.prog W = .ok (.slice A k c) W:=by
 obtain⟨i0,a,hz0,b,hz2⟩:=dO MW;exact xW (P:=Tryz.prog) 25 9 1 Tryz.underlying25 a b A n c k d W
theorem Br {w:World} {B n c k:Nat} {A:Option Addr} {l:List ByteArray} (h:Rd w B 1 A n c (strs l)) (f:k≤n):Rd w B 1 A k c (strs (l.take k)):=by
 have hl:=bM h;refine⟨?_,aN f h.cap,fun u hu=>h.one u ?_,fun h0=>?_⟩
 ·rw[DL,l7];omega
 ·unfold Tr.strs at hu ⊢
  rw[List.map_take]at hu;exact List.mem_of_mem_take hu
 ·obtain⟨b,o,e,a,d⟩:=h.at_ (by omega)
  refine⟨b,o,e,a,fun j u hu=>d j u ?_⟩;unfold Tr.strs at hu ⊢;rw[List.map_take,List.getElem?_take]at hu
  split at hu
  ·exact hu
  ·cases hu
theorem Mh (w:World) (Ae Ak:Option Addr) (ne nk ce ck:Nat) (a:Option Addr) (d c:Nat) (b:Int) (xs:ByteArray) (e:Int):∃ (W:World) (p q:Nat),ai (W=((w.alloc (.cells #[.slice Ae ne ce,.slice Ak nk ck] 35)).alloc (.cells #[.slice a d c,.int .i64 b,.string xs,.int .i64 e] 27)))∧ai (p=w.heap.size)∧ai (q=p+1)∧ai (Kept [(⟨p,0,none⟩,.slice Ae ne ce),(⟨p,1,none⟩,.slice Ak nk ck),(⟨q,0,none⟩,.slice a d c),(⟨q,1,none⟩,.int .i64 b),(⟨q,2,none⟩,.string xs),(⟨q,3,none⟩,.int .i64 e)] w W):=by
 refine⟨_,_,_,rfl,rfl,rfl,?_⟩;have f:=Kept.a_ (show av w (((w.alloc (.cells #[.slice Ae ne ce,.slice Ak nk ck] 35)).alloc (.cells #[.slice a d c,.int .i64 b,.string xs,.int .i64 e] 27))) from ((bN).alloc (bG) _).alloc (by simp) _)
 refine ((((((f).af ?_).af ?_).af ?_).af ?_).af ?_).af ?_ <;> go_simp
set_option maxRecDepth 100000 in
set_option maxHeartbeats 4000000 in
theorem yQ (t:T) (Ae Ak:Option Addr) (ne nk ce ck:Nat) (xp:List ByteArray) (xa:Int) (xs:ByteArray) (xv:Int) (xA:Option Addr) (xn xc:Nat) (w:World) (z:Bool) (hz:pV t ⟨xp,xa,xs,xv⟩=z) (ht:au 5 t) (hl:LenT reachBytes t) (hn:nodes t≤1000) (hr:aF w w.heap.size t ⟨Ae,ne,ce⟩ ⟨Ak,nk,ck⟩) (Oq:xn≤900) (Ot:Rd w w.heap.size 1 xA xn xc (strs xp)) :
  Calls Tryz.prog 53 #[.agg #[.slice Ae ne ce,.slice Ak nk ck],.agg #[.slice xA xn xc,.int .i64 xa,.string xs,.int .i64 xv]] w fun e w'=>e = .returned (.bool z)∧av w w':=by
 obtain⟨W,p,q,HW,HP,HQ,c⟩:=Mh w Ae Ak ne nk ce ck xA xn xc xa xs xv;have R:=ah (aF.later hr c.below);have RX:=ah (Ot.later c.below);have HT:=ah ht;have HR0:=ah hr;have N:=ah (And.intro hn (And.intro Oq hl));obtain⟨y,hy⟩:∃ y,decide (brings xa)=y:=⟨_,rfl⟩;have HY:=ah hy;have HZ:=ah hz;clear hl hr Ot ht hn Oq hz hy;obtain⟨c0,c1,c2,c3,c4,c5,-⟩:=c.cj;go_enter Tryz.func53,Tryz.ntmps53;go_wp2_with fail;rw[← HW.o,← HP.o]
 try rw[← HQ.o]
 refine (jC xa W y HY).mono ?_;rintro e v1 ⟨rfl,f⟩;obtain⟨c,R,RX⟩:=kX f c R RX;clear f;clear c0 c1 c2 c3 c4 c5
 cases y with
 | false=>
  obtain rfl:z=false:=by
   rw[← HZ.o];exact aM fun h=>absurd h.1 (yF HY)
  go_wp2_with fail;go_ret;exact⟨by first | rfl | simp,c.below⟩
 | true=>
  obtain⟨c0,c1,c2,c3,c4,c5,-⟩:=c.cj;go_wp2_with fail;refine (rH xp xa xs xv xA xn xc v1 (by have:=N.o;omega) RX).mono ?_;rintro e v2 ⟨eA,em,ec,rfl,ho,Oj,f⟩;have Oy:=ah Oj.o;have RE:=ah ho.rd;clear ho Oj;obtain⟨c,R,RX⟩:=kX f c R RX;clear f;clear c0 c1 c2 c3 c4 c5;obtain⟨m,NH⟩:∃ l,l=bL ⟨xp,xa,xs,xv⟩:=⟨_,rfl⟩;rw[← NH]at RE;have NR:=ah (bM RE);have Ow:ai (em≤ec):=RE.cap
  have Og:ai ((∃ (k:Nat) (h:k<m.length),24≤(aI t (m.take k)).ks.length∧m[k]∉keysOf (aI t (m.take k)).ks)∨(xa=5∧24≤(aI t m).es.length)→z=true):=fun h=>by
   rw[← HZ.o];unfold pV;rw[← NH];exact aJ ⟨jH HY,h⟩
  have Od:ai ((∀ (j:Nat) (h:j<m.length),j<m.length→¬(24≤(aI t (m.take j)).ks.length∧m[j]∉keysOf (aI t (m.take j)).ks))→z=decide (xa=5∧24≤(aI t m).es.length)):=fun h=>by
   rw[← HZ.o];unfold pV;rw[← NH];refine decide_eq_decide.2 ⟨fun h2=>?_,fun h2=>⟨jH HY,.inr h2⟩⟩
   rcases h2.2 with ⟨k,hk,h3⟩ | h3
   ·exact absurd h3 (h k hk hk)
   ·exact h3
  clear NH;obtain⟨c0,c1,c2,c3,c4,c5,-⟩:=c.cj;go_wp2_with fail
  go_loopw [16] (fun i wr=>∃ (k:Nat),k≤em∧i = .int .i64 k∧ai (∀ (j:Nat) (h:j<m.length),j<k→¬(24≤(aI t (m.take j)).ks.length∧m[j]∉keysOf (aI t (m.take j)).ks))∧ai (Kept [(⟨p,0,none⟩,.slice Ae ne ce),(⟨p,1,none⟩,.slice Ak nk ck),(⟨q,0,none⟩,.slice xA xn xc),(⟨q,1,none⟩,.int .i64 xa),(⟨q,2,none⟩,.string xs),(⟨q,3,none⟩,.int .i64 xv)] w wr)∧ai (av v2 wr)) (fun i _=>em-(intOf i).toNat)
  case atStart=>exact⟨0,by omega,rfl,fun j _ h=>absurd h (by omega),c,bN⟩
  case round=>
   obtain⟨k,hk,rfl,HI,Oa,NF⟩:=hrel;obtain⟨wo,O6⟩:∃ W,W=wr:=⟨_,rfl⟩;subst O6;have x:=ah (aF.later R NF);have g:=ah (RE.later NF);have c:=Oa;have hk4:=Oy.o;have hk5:=N.2.1;clear Oa c0 c1 c2 c3 c4 c5
   by_cases NT:k<em
   ·have Om:k<m.length:=by rw[NR.o];exact NT
    have NW:ai (∀ W,(Instr.slice 25 (.slice eA em ec) none (some (.int .i64 (k:Nat))) none).run Tryz.prog W = .ok (.slice eA k ec) W):=fun W=>wR eA em ec k (by have:=Ow.o;omega) W;have hcut9:=NW.o;have F:=ah (Br g (oZ NT))
    have Ob:ai ((m.take k).length=k):=ah (by rw[l7];omega)
    have Oz:=ah (cB HT (m.take k));have NC:ai (nodes (aI t (m.take k))≤1000):=aN (fP t (m.take k)) N.1;obtain⟨c0,c1,c2,c3,c4,c5,-⟩:=c.cj;go_wp2_with fail;clear c0 c1 c2 c3 c4 c5
    go_cut [7] (fun s9 wx=>∃ (g9:Nat) (a9 b9:SV),s9 = .pointer (some ⟨g9,0,none⟩)∧ai (LY wo g9 (aI t (m.take k)) a9 b9 wx))
    case first=>
     refine Rg (S:=eB _) c.drew.cj (fun d=>?_);obtain⟨O,n,f⟩:=mW wo;obtain⟨c,x,g,F⟩:=iR f c x g F;clear f;have NM:ai (wo.drew=O):=n.symm;rw[← n]at d ⊢;clear n
     have r:ai (av wo O):=ah (by rw[← NM.o];exact (bN).drew)
     clear NM;refine T4 0 19 1 20 2 21 3 22 ?_;refine wpAnyH_ready (rs:=[4,5]) (by kernel_rfl) (by simp) ?_;refine AllReadyH.cons (o:=⟨some 23,_,_,_,_,_⟩) rfl (fun K G=>?_) (AllReadyH.cons (o:=⟨some 7,_,_,_,_,_⟩) rfl (fun K G=>?_) (AllReadyH.nil))
     ·go_simp
      (go_at_call 61;refine (jU 4 t Ae Ak ne nk ce ck O (m.take k) eA k ec Ob (by omega) F HT (by have:=N.o;omega) x).mono ?_);rintro e Ny ⟨H,C,M,Q,B,U,rfl,ho,f⟩;have HN:ai (aX Ny (fun Y=>wo.heap.size≤Y) (aI t (m.take k)) ⟨H,C,M⟩ ⟨Q,B,U⟩):=aX.mono (fun Y u _=>aN r.size u) _ ho;clear ho;obtain⟨c,x,g,F,r⟩:=jo f c x g F r;clear f;clear d;refine Th G ?_ (fun d=>?_)
      ·exact c.cj
      clear G K;refine Tc 5 (fun K G=>?_);go_simp;clear d;refine Th G ?_ (fun d=>?_)
      ·exact (c.alloc _).cj
      clear G K;obtain⟨b,Nz,u,N9,f,b0,b1⟩:=A_ Ny (.slice none 0 0) (.slice none 0 0) 35;have Z:=jy u r.o;have NE:=jy u c.below;have O4:=fU u c.c0;have O5:=fU u c.c2;have HN:=ah (aX.mono (ok':=fun Y=>wo.heap.size≤Y∧Y≠b) (fun Y u NT=>⟨u,by omega⟩) _ HN);obtain⟨c,x,g,F,r,HN⟩:=pR f c x g F r HN;have HZ:=ah (((Kept.a_ r).af b1).af b0);have HF:=p_ u N9;have Oo:b<Nz.heap.size:=HF.1;(try rw[← N9]at d);rw[← N9];rw[← u];clear u N9 f b0 b1;have z0:=HZ.c0;have z1:=HZ.c1;have m0:=HF.2 0;have m1:=HF.2 1;refine Tc 6 (fun K G=>?_);go_simp;refine Th G ?_ (fun v=>?_)
      ·(try dsimp only)
       have X:=c.o;have X:=X.set (a:=⟨b,0,none⟩) NE (by simp;omega) (.slice H C M);have X:=X.set (a:=⟨b,1,none⟩) NE (by simp;omega) (.slice Q B U);exact X.cj
      clear G K d;have d:=v;clear v;refine Td ?_;clear d
      have NA:ai (LY wo b (aI t (m.take k)) ⟨H,C,M⟩ ⟨Q,B,U⟩ ((Nz.setCell ⟨b,0,none⟩ (.slice H C M)).setCell ⟨b,1,none⟩ (.slice Q B U))):=by
       obtain⟨W9,A⟩:∃ W,W=((Nz.setCell ⟨b,0,none⟩ (.slice H C M)).setCell ⟨b,1,none⟩ (.slice Q B U)):=⟨_,rfl⟩;rw[← A]
       have u:av wo W9:=by
        rw[A];exact ((r.setCell (p:=⟨b,0,none⟩) Z _).setCell (p:=⟨b,1,none⟩) Z _)
       have N_:aA b W9:=by rw[A];exact (HF.set _ _).set _ _
       refine⟨Z,N_,aX.keep (by rw[A];simp[World.setCell]) (fun Y u _=>?_) _ HN,?_⟩
       ·rw[A]
        exact (cZ _ ⟨b,1,none⟩ _ Y (fun e=>u.2 e)).trans (cZ _ ⟨b,0,none⟩ _ Y (fun e=>u.2 e))
       ·refine ((Kept.a_ u).af ?_).af ?_ <;> (rw[A];go_simp)
      clear z0 z1 m0 m1;go_wp2_with fail;go_meet;exact⟨b,⟨H,C,M⟩,⟨Q,B,U⟩,rfl,NA⟩
     ·go_simp
      clear d;refine Th G ?_ (fun d=>?_)
      ·exact (c.alloc _).cj
      clear G K;obtain⟨b,Ny,u,N8,f,b0,b1⟩:=A_ O (.slice none 0 0) (.slice none 0 0) 35;have Z:=jy u r.o;have NE:=jy u c.below;have O4:=fU u c.c0;have O5:=fU u c.c2;obtain⟨c,x,g,F,r⟩:=jo f c x g F r;have HZ:=ah (((Kept.a_ r).af b1).af b0);have HF:=p_ u N8;have Oo:b<Ny.heap.size:=HF.1;(try rw[← N8]at d);rw[← N8];rw[← u];clear u N8 f b0 b1;refine Tc 4 (fun K G=>?_);go_simp;(go_at_call 61;refine (jU 4 t Ae Ak ne nk ce ck Ny (m.take k) eA k ec Ob (by omega) F HT (by have:=N.o;omega) x).mono ?_);rintro e Nz ⟨H,C,M,Q,B,U,rfl,ho,f⟩;have HN:ai (aX Nz (fun Y=>wo.heap.size≤Y∧Y≠b) (aI t (m.take k)) ⟨H,C,M⟩ ⟨Q,B,U⟩):=aX.mono (fun Y u _=>⟨aN r.size u,by have h:=HF.1;omega⟩) _ ho
      clear ho;obtain⟨c,x,g,F,r,HZ,HF⟩:=Ed f c x g F r HZ HF;clear f;have z0:=HZ.c0;have z1:=HZ.c1;have m0:=HF.2 0;have m1:=HF.2 1;clear d;refine Th G ?_ (fun d=>?_)
      ·exact c.cj
      clear G K;refine Tc 6 (fun K G=>?_);go_simp;refine Th G ?_ (fun v=>?_)
      ·(try dsimp only)
       have X:=c.o;have X:=X.set (a:=⟨b,0,none⟩) NE (by simp;omega) (.slice H C M);have X:=X.set (a:=⟨b,1,none⟩) NE (by simp;omega) (.slice Q B U);exact X.cj
      clear G K d;have d:=v;clear v;refine Td ?_;clear d
      have NA:ai (LY wo b (aI t (m.take k)) ⟨H,C,M⟩ ⟨Q,B,U⟩ ((Nz.setCell ⟨b,0,none⟩ (.slice H C M)).setCell ⟨b,1,none⟩ (.slice Q B U))):=by
       obtain⟨W9,A⟩:∃ W,W=((Nz.setCell ⟨b,0,none⟩ (.slice H C M)).setCell ⟨b,1,none⟩ (.slice Q B U)):=⟨_,rfl⟩;rw[← A]
       have u:av wo W9:=by
        rw[A];exact ((r.setCell (p:=⟨b,0,none⟩) Z _).setCell (p:=⟨b,1,none⟩) Z _)
       have N_:aA b W9:=by rw[A];exact (HF.set _ _).set _ _
       refine⟨Z,N_,aX.keep (by rw[A];simp[World.setCell]) (fun Y u _=>?_) _ HN,?_⟩
       ·rw[A]
        exact (cZ _ ⟨b,1,none⟩ _ Y (fun e=>u.2 e)).trans (cZ _ ⟨b,0,none⟩ _ Y (fun e=>u.2 e))
       ·refine ((Kept.a_ u).af ?_).af ?_ <;> (rw[A];go_simp)
      clear z0 z1 m0 m1;go_wp2_with fail;go_meet;exact⟨b,⟨H,C,M⟩,⟨Q,B,U⟩,rfl,NA⟩
    case rest=>
     obtain⟨V,Ou⟩:∃ W,W=wc:=⟨_,rfl⟩;subst Ou;obtain⟨b,⟨H,C,M⟩,⟨Q,B,U⟩,rfl,NN⟩:=hcut;obtain⟨NI,N_,NU,NJ⟩:=NN.o;have f:=NJ.below;have Ov:ai (av wo V):=f;obtain⟨c,x,g,F⟩:=iR f c x g F;clear f;have L:ai (aX V (fun k=>wo.heap.size≤k∧k≠b) (aI t (m.take k)) ⟨H,C,M⟩ ⟨Q,B,U⟩):=NU;have Rb:ai (aF V V.heap.size (aI t (m.take k)) ⟨H,C,M⟩ ⟨Q,B,U⟩):=aX.rd _ NU;have J:ai (aA b V):=N_;have HLb:ai (wo.heap.size≤b):=NI;have c:=ah ((c.af NJ.c1).af NJ.c0);clear NN NU NJ NI N_;have O1:=g.o;obtain⟨eb,eo,rfl,NI,hc⟩:=gM g (by omega);have e0:=hc k Om;obtain⟨NV,N7⟩:∃ s,s=m[k]:=⟨_,rfl⟩;rw[← N7]at e0
     have Oc:ai ((aI t (m.take k)).ks.length=B):=by
      have h:=Rb.o;rw[← T.eta (aI t (m.take k))]at h;exact (bn h).2
     obtain⟨y5,NK⟩:∃ y,decide (NV∈keysOf (aI t (m.take k)).ks)=y:=⟨_,rfl⟩;have Oe:=ah NK;have NZ:=ah (c.af e0)
     have NY:ai (¬(24≤B∧y5=false)→(∀ (j:Nat) (h:j<m.length),j<(k+1)→¬(24≤(aI t (m.take j)).ks.length∧m[j]∉keysOf (aI t (m.take j)).ks))):=fun O3 j hj hjk=>by
      by_cases e:j=k
      ·subst e
       rintro⟨h1,h2⟩;refine O3 ⟨by rw[← Oc.o];exact h1,?_⟩;rw[← NK,N7];exact aM h2
      ·exact HI.o j hj (by omega)
     have O0:ai (24≤B∧y5=false→z=true):=fun ⟨h1,h2⟩=>by
      refine Og (.inl ⟨k,Om,by rw[Oc.o];exact h1,?_⟩);rw[← N7];exact yF (NK.trans h2)
     clear O1 NI hc N7 NK e0 c;have c:=NZ;clear NZ;have D:ai (av v2 V):=NF.trans ((Ov.o).mono NF.size)
     by_cases NG:24≤B
     ·have NS:decide ((24:Int)≤(B:Int))=true:=aJ (by omega)
      obtain⟨c0,c1,c2,c3,c4,c5,c6,c7,c8,-⟩:=c.cj;go_wp2_with fail;clear c0 c1 c2 c3 c4 c5 c6 c7 c8
      cases y5 with
      | false=>
       refine Rg (S:=eB _) c.drew.cj (fun d=>?_);obtain⟨O,n,f⟩:=mW V;obtain⟨c,x,g,F,Rb,J,L,D⟩:=lZ f c x g F Rb J L D;clear f;rw[← n]at d ⊢;clear n;refine T4 0 24 1 25 2 26 3 27 ?_;refine T4 4 28 5 29 6 30 7 31 ?_;refine T2 8 32 9 33 ?_;refine Tc 10 (fun K G=>?_);go_simp;(go_at_call 108;refine (xN (aI t (m.take k)) H Q C B M U NV O false Oe (LenT.few (by have:=NC.o;omega)) NC Rb).mono ?_);rintro e Ny ⟨rfl,f⟩;obtain⟨c,x,g,F,Rb,J,L,D⟩:=lZ f c x g F Rb J L D;clear f;clear d;refine Th G ?_ (fun d=>?_)
       ·exact c.cj
       clear G K;refine T2 11 35 12 36 ?_;refine Td ?_;clear d;obtain rfl:z=true:=O0.o ⟨NG,rfl⟩;go_wp2_with fail;go_ret;exact⟨by first | rfl | simp,c.below⟩
      | true=>
       refine Rg (S:=eB _) c.drew.cj (fun d=>?_);obtain⟨O,n,f⟩:=mW V;obtain⟨c,x,g,F,Rb,J,L,D⟩:=lZ f c x g F Rb J L D;clear f;rw[← n]at d ⊢;clear n;refine T4 0 24 1 25 2 26 3 27 ?_;refine T4 4 28 5 29 6 30 7 31 ?_;refine T2 8 32 9 33 ?_;refine Tc 10 (fun K G=>?_);go_simp;(go_at_call 108;refine (xN (aI t (m.take k)) H Q C B M U NV O true Oe (LenT.few (by have:=NC.o;omega)) NC Rb).mono ?_);rintro e Ny ⟨rfl,f⟩;obtain⟨c,x,g,F,Rb,J,L,D⟩:=lZ f c x g F Rb J L D;clear f;clear d;refine Th G ?_ (fun d=>?_)
       ·exact c.cj
       clear G K;refine T2 11 35 12 36 ?_;refine Td ?_;clear d;have NP:=ah (NY.o (by first | (rintro⟨h8,X⟩;omega) | (rintro⟨h8,X⟩;cases X)));have NQ:=ah (c.tail.tail.tail);go_wp2_with fail;go_roundw
       case rel=>exact⟨k+1,by omega,by go_num,NP,NQ,D⟩
       case measure=>simp[intOf];omega
     ·have NS:decide ((24:Int)≤(B:Int))=false:=aM (by omega)
      obtain⟨c0,c1,c2,c3,c4,c5,c6,c7,c8,-⟩:=c.cj;go_wp2_with fail;clear c0 c1 c2 c3 c4 c5 c6 c7 c8;refine Rg (S:=eB _) c.drew.cj (fun d=>?_);obtain⟨O,n,f⟩:=mW V;obtain⟨c,x,g,F,Rb,J,L,D⟩:=lZ f c x g F Rb J L D;clear f;rw[← n]at d ⊢;clear n;refine T4 0 24 1 25 2 26 3 27 ?_;refine Tk 4 28 ?_;refine U4 5 29 6 30 7 31 8 32 ?_;refine U3 9 33 10 34 11 35 ?_;refine Tk 12 36 ?_;refine Td ?_;clear d;have NP:=ah (NY.o (by first | (rintro⟨h8,X⟩;omega) | (rintro⟨h8,X⟩;cases X)));have NQ:=ah (c.tail.tail.tail);go_wp2_with fail;go_roundw
      case rel=>exact⟨k+1,by omega,by go_num,NP,NQ,D⟩
      case measure=>simp[intOf];omega
   ·obtain rfl:k=em:=by omega
    have Oh:=ah (Od.o (fun j hj _=>HI.o j hj (by rw[← NR.o];exact hj)))
    by_cases h5:xa=5
    ·subst h5
     have Oz:=ah (cB HT m);have NC:ai (nodes (aI t m)≤1000):=aN (fP t m) N.1;obtain⟨c0,c1,c2,c3,c4,c5,-⟩:=c.cj;go_wp2_with fail;refine (jU 4 t Ae Ak ne nk ce ck wo m eA k ec NR (by omega) g HT (by have:=N.o;omega) x).mono ?_;rintro e O ⟨H,C,M,Q,B,U,rfl,ho,f⟩
     have Ol:(aI t m).es.length=C:=by
      have h:=ho.rd;rw[← T.eta (aI t m)]at h;exact (bn h).1
     have Ox:=ah Ol;clear ho Ol;obtain⟨c,x,g⟩:=kX f c x g;clear f;clear c0 c1 c2 c3 c4 c5
     have hfd:∀ w:World,(Instr.field 35 (.agg #[.slice H C M,.slice Q B U]) 0).run Tryz.prog w = .ok (.slice H C M) w:=fun _=>by kernel_rfl
     have Oi:ai (z=decide (24≤C)):=by
      unfold ai;rw[Oh.o,Ox.o];exact decide_eq_decide.2 ⟨fun h=>h.2,fun h=>⟨by first | trivial | rfl,h⟩⟩
     by_cases NG:24≤C
     ·have NS:decide ((24:Int)≤(C:Int))=true:=aJ (by omega)
      obtain rfl:z=true:=by rw[Oi.o];exact aJ NG
      go_wp2_with fail;go_ret;exact⟨by first | rfl | simp,c.below⟩
     ·have NS:decide ((24:Int)≤(C:Int))=false:=aM (by omega)
      obtain rfl:z=false:=by rw[Oi.o];exact aM NG
      go_wp2_with fail;go_ret;exact⟨by first | rfl | simp,c.below⟩
    ·have f5:(xa==5)=false:=by simpa using h5
     obtain rfl:z=false:=by rw[Oh.o];exact aM fun h=>h5 h.1
     obtain⟨c0,c1,c2,c3,c4,c5,-⟩:=c.cj;go_wp2_with fail;go_ret;exact⟨by first | rfl | simp,c.below⟩
end Cs
end Go.Proofs.YtgeafpaognhokaaGreat
