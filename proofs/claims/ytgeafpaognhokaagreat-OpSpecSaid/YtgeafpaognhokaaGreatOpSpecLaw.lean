/- Proved: the law OpSpec answers true for every list of acts, every path that can be handed in, and leaves its arguments as they were. Conditions: none. -/
import Derived.Test.YtgeafpaognhokaaGreatExtraOpSpec
namespace Go.Proofs.YtgeafpaognhokaaGreat
open ChangeShapes WideShapes ChangeAt RowKit
namespace lawOpSpec
open Tr Cx Cs Sp Rw Classical
theorem refpath_long {n:Nat} (A:Option Addr) (c:Nat) (w:World) (h:3<n):Calls Tryz.prog 16 #[.slice A n c] w fun e w'=>e = .returned (.int .i64 1)∧av w w':=by
 have f0:((n:Int)==0)=false:=by simp;omega
 have f3:decide ((3:Int)<(n:Int))=true:=aJ (by omega);clear h;go_enter Tryz.func16,Tryz.ntmps16;go_wp2_with fail;go_ret;exact⟨rfl,bN⟩
set_option maxRecDepth 100000 in
set_option maxHeartbeats 4000000 in
theorem walk_any (l:List uf) (n:Nat) (A:Option Addr) (c:Nat) (p:List ByteArray) (pn:Nat) (PA:Option Addr) (pc:Nat) (w:World) (hl:pu w w.heap.size A n c l) (hp:Rd w w.heap.size 1 PA pn pc (Tr.strs p)) :
  Calls Tryz.prog 9 #[.slice A n c,.slice PA pn pc] w fun e w'=>e = .returned (.bool true)∧av w w':=by
 have G:=ah hl;have J:=ah hp;have a:ai (Kept [] w w):=Kept.a_ (bN);clear hl hp;go_enter Tryz.func9,Tryz.ntmps9;go_wp2_with fail;refine (mE w).mono ?_;rintro e v1 ⟨rfl,f⟩;obtain⟨a,G,J⟩:=kX f a G J;clear f;go_wp2_with fail;refine (uZ l n A c v1 G).mono ?_;rintro e v2 ⟨b,rfl,NZ,f⟩;have NN:=ah NZ.o;clear NZ;obtain⟨a,G,J⟩:=kX f a G J;clear f
 cases b with
 | false=>
  go_wp2_with fail;refine (mE _).mono ?_;rintro e Oh ⟨rfl,f⟩;have a:=ah (a.later f);clear f;go_wp2_with fail;go_ret;exact⟨by first | rfl | simp,a.below⟩
 | true=>
  have X:=ah (NN.o rfl);clear NN
  by_cases h3:3<pn
  ·go_wp2_with fail
   refine (refpath_long PA pc v2 h3).mono ?_;rintro e v3 ⟨rfl,f⟩;obtain⟨a,G,J⟩:=kX f a G J;clear f;go_wp2_with fail;refine (mE _).mono ?_;rintro e Oh ⟨rfl,f⟩;have a:=ah (a.later f);clear f;go_wp2_with fail;go_ret;exact⟨by first | rfl | simp,a.below⟩
  ·have N8:ai (pn≤3):=by unfold ai;omega
   clear h3;obtain⟨z0,Og⟩:∃ z,jk p=z:=⟨_,rfl⟩;have N_:=ah Og;clear Og;go_wp2_with fail;refine (vN p pn PA pc v2 z0 N_ (by have:=N8.o;omega) J).mono ?_;rintro e v3 ⟨rfl,f⟩;obtain⟨a,G,J⟩:=kX f a G J;clear f
   by_cases hz:z0=0
   ·subst hz
    have NJ:ai (f_ p):=jT.1 N_.o;obtain⟨g,hg⟩:∃ g,g=v3.heap.size:=⟨_,rfl⟩;obtain⟨W,hW⟩:∃ W,W=v3.alloc (.cells #[.slice none 0 0,.slice none 0 0,.slice none 0 0,.slice none 0 0,.slice none 0 0,.slice none 0 0,.slice none 0 0,.slice none 0 0,.slice none 0 0,.int .i64 0,.int .i64 0,.int .i64 0,.slice none 0 0] 67):=⟨_,rfl⟩;have NC:=pK.zero v3;rw[← hg,← hW]at NC;have Oj:=ah NC;have HG:=ah hg;have HW:=ah hW;have NI:ai (av w v3):=a.below;have Ol:=ah (bM J);clear NC hg hW a;go_wp2_with fail;rw[← HG.o,← HW.o]
    go_loopw [26] (fun i wr=>∃ (k:Nat) (s:SM),k≤n∧i = .int .i64 k∧ai (pK g v3 s wr)∧ai (rV s)∧ai (s.ev.length≤k)) (fun i _=>n-(intOf i).toNat)
    case atStart=>exact⟨0,Ar,by omega,rfl,Oj,rV.zero,bG⟩
    case round=>
     obtain⟨k,s,hk,rfl,q,HK,HE⟩:=hrel;obtain⟨wo,Oy⟩:∃ W,W=wr:=⟨_,rfl⟩;subst Oy;have hn30:=X.1
     by_cases Ow:k<n
     ·have NW:k<l.length:=by rw[G.o.len];exact Ow
      obtain⟨ab,ao,rfl,C,hc⟩:=G.at_ (by omega);obtain⟨Z,a1,a2,a3,a4,a5,a6⟩:=hc k NW;have a9:=Z;have Z:=(q.below.cell (p:=⟨ab,ao+k*7,none⟩) C).trans Z;have a1:=(q.below.cell (p:=⟨ab,ao+k*7+1,none⟩) C).trans a1;have a2:=(q.below.cell (p:=⟨ab,ao+k*7+2,none⟩) C).trans a2;have a3:=(q.below.cell (p:=⟨ab,ao+k*7+3,none⟩) C).trans a3;have a4:=(q.below.cell (p:=⟨ab,ao+k*7+4,none⟩) C).trans a4;have a5:=(q.below.cell (p:=⟨ab,ao+k*7+5,none⟩) C).trans a5;have a6:=(q.below.cell (p:=⟨ab,ao+k*7+6,none⟩) C).trans a6;obtain⟨V,N⟩:∃ x,x=l[k]:=⟨_,rfl⟩
      have L:V∈l:=by rw[N];exact bT NW
      rw[← N]at a9 Z a1 a2 a3 a4 a5 a6;have NS:=G.each V L;have Oe:=X.2 V L;clear hc N L;obtain⟨wh,fr,he,⟨xp,xa,xs,xv⟩,⟨xA,xn,xc⟩⟩:=V;dsimp only at Z a1 a2 a3 a4 a5 a6 a9 NS Oe;obtain⟨NY,Od,NT⟩:=NS;obtain⟨i,hi,NU⟩:∃ i:Nat,wh % 3=((i:Nat):Int)∧i<3:=⟨(wh % 3).toNat,by omega,by omega⟩;obtain⟨j,hj,NV⟩:∃ j:Nat,fr % 3=((j:Nat):Int)∧j<3:=⟨(fr % 3).toNat,by omega,by omega⟩;have NM:=ah (yj g v3 s wh fr he xp xa xs xv xA xn xc i j wo hi NU hj NV Od NT q HK (by have:=HE.o;omega) (by omega) NY);have NH:=ah (And.intro C a9);have D:=ah (And.intro hi NU)
      have fi:IntKind.u8.wrap wh=wh:=by rw[IntKind.wrap_u8];omega
      have Ot:IntKind.i64.wrap ((i:Nat):Int)=((i:Nat):Int):=by rw[iN];omega
      have Ou:IntKind.u8.wrap ((i:Nat):Int)=((i:Nat):Int):=by rw[IntKind.wrap_u8];omega
      have Ov:wh.tmod 3=((i:Nat):Int):=by rw[← hi];exact IE Od.1
      have NQ:((i:Nat):Int)<3:=by omega
      clear NY NT hi hj NV Oe a9 C;go_wp2_with fail;refine NM.mono ?_;rintro e w2 ⟨rfl,t,q,u,NK,Oq⟩
      have O:ai (t.ev.length≤k+1):=by
       rcases NK.ev with h | ⟨x,h,_⟩
       ·unfold ai;rw[h];have:=HE.o;omega
       ·unfold ai;rw[h,bP];have:=HE.o;simp;omega
      clear NM Oq NK Z a1 a2 a3 a4 a5 a6;have Z:=(q.below.cell (p:=⟨ab,ao+k*7,none⟩) NH.1).trans NH.2;have U:=q.ck i D.2;have NR:=q.ca;have a:=ah (((((Kept.nil w2).af U.2.2).af U.2.1).af U.1).af NR);clear U NR
      have F:ai (t.evs.length≤31):=by have:=O.o;unfold ai SM.evs;rw[eP];omega
      have Q:=ah (eU (u.knows i D.2));have Oi:=ah (fZ (u.knows i D.2));have r:ai (Rd w2 w2.heap.size 1 PA pn pc (Tr.strs p)):=(J.below q.below).more q.below.size;obtain⟨cx,NE⟩:∃ c,c=(t.know i).k.2:=⟨_,rfl⟩;have HCX:=ah NE
      have HRC:ai (aH cx):=ah (by rw[NE];exact (u.knows i D.2).right.ctx)
      obtain⟨B,NF,Ox⟩:=Ls (aI (t.know i).k.1 p) (bD p)
      have H:ai (uh (aI (t.know i).k.1 p) (bD p) B∧B.l.length≤155):=⟨NF,by
       have h1:=fP (t.know i).k.1 p;have h2:=Q.o;have h3:=F.o
       omega⟩
      have N9:=ah (F3 u D.2 NJ NF)
      have Oo:ai (vM (t.know i).k.1 p=0):=by
       unfold ai vM;rw[if_neg (by rw[Tr.aO.2 (u.o.knows i D.o.2).right.tree];decide)];exact N_.o
      clear NE NF Ox;obtain⟨c0,c1,c2,c3,-⟩:=a.cj;go_wp2_with fail;clear c0 c1 c2 c3;clear Z fi Ot Ou Ov;refine Rg (S:=eB _) a.drew.cj (fun m=>?_);obtain⟨Oz,Ny,f⟩:=mW w2;obtain⟨a,q,r⟩:=kX f a q r;clear f;rw[← Ny]at m ⊢;clear Ny;refine T4 0 42 1 43 2 44 3 45 ?_;refine T3 4 46 5 47 6 48 ?_;refine Tc 7 (fun K hK=>?_);go_simp;(go_at_call 33;refine (lV t.ev t.n t.A t.c (t.know i).k.2 (t.know i).c.n (t.know i).c.A (t.know i).c.c Oz (by rw[← q.o.len];have:=O.o;omega) q.evs (q.know i D.2).len (by have h1:=Oi.o;have h2:=F.o;have h3:(t.know i).k.2.length=(t.know i).c.n:=(q.know i D.2).len;omega) (q.know i D.2).rd.ctx (aJ (u.knows i D.2).right.ctx)).mono ?_)
      rintro e NG ⟨QA,qn,qc,rfl,Oc,Ob,f⟩;have Om:=ah Ob.o;have v:ai (pE NG NG.heap.size QA qn qc (iU t (t.know i).k.2)):=Oc.o;clear Oc Ob;obtain⟨a,q,r⟩:=kX f a q r;clear f;clear m;refine Th hK ?_ (fun m=>?_)
      ·exact a.cj
      clear hK K;refine Tk 8 8 ?_;refine Td ?_;clear m NQ;obtain⟨c0,c1,c2,c3,-⟩:=a.cj
      have NQ:((i:Nat):Int)<3:=by have:=D.2;omega
      go_wp2_with fail;refine (zT (t.know i).k.1 (t.know i).e.A (t.know i).d.A (t.know i).e.n (t.know i).d.n (t.know i).e.c (t.know i).d.c p PA pn pc B 0 NG Oo (fun _=>H.1) (fun h=>absurd rfl h) (LenT.few (by have:=Q.o;have:=F.o;omega)) (by have:=Q.o;have:=F.o;omega) (q.know i D.2).rd.tree (by have:=Q.o;have:=F.o;omega) (by have:=N8.o;omega) r (by have:=H.2;omega)).mono ?_;rintro e O0 ⟨VA,vc,rfl,M,f⟩;have R:=M;clear M;obtain⟨a,q,r,v⟩:=iR f a q r v;clear f;clear c0 c1 c2 c3;obtain⟨vb,O1,Oa,Nz,f,b0,b1,b2,b3⟩:=zi O0 (.int .i64 B.kd) (.bool B.on) (.int .i64 B.n) (.slice VA B.l.length vc) 51;obtain⟨a,q,r,v,R⟩:=jo f a q r v R;clear f;have a:=ah ((((a.af b3).af b2).af b1).af b0)
      have NP:=ah Oa;have Y:=ah Nz;clear Oa Nz b0 b1 b2 b3;obtain⟨c0,c1,c2,c3,c4,c5,c6,c7,-⟩:=a.cj;rw[Y.o]at c0 c1 c2 c3 c4 c5 c6 c7;rw[NP.o]at c0 c1 c2 c3;go_wp2_with fail;rw[← NP.o,← Y.o];clear c0 c1 c2 c3 c4 c5 c6 c7;refine Rg (S:=eB _) a.drew.cj (fun m=>?_);obtain⟨O3,N7,f⟩:=mW O1;obtain⟨a,q,r,v,R⟩:=jo f a q r v R;clear f;rw[← N7]at m ⊢;clear N7;refine T4 0 60 1 61 2 62 3 63 ?_;refine T2 4 64 5 65 ?_;refine Tc 6 (fun K hK=>?_);go_simp;(go_at_call 34;refine (Dp (iU t (t.know i).k.2) qn QA qc p pn PA pc O3 (bD p) B.l B.l.length B.on B.n rfl (by have h1:=Om.o;have h2:=q.len;have h3:=O.o;omega) v (by have h1:=Ol.o;have h2:0<p.length:=List.length_pos_iff.2 NJ.some;omega) (by have:=N8.o;omega) r (fun y hy=>L9 q u (by have:=F.o;omega) ((qK (u.knows i D.2).right.ctx).1 hy).1) (fun y hy=>Mq u ((qK (u.knows i D.2).right.ctx).1 hy).1) N9.2.2 rfl (by have:=H.2;omega) N9.1 N9.2.1).mono ?_)
      rintro e O4 ⟨SA,sc,rfl,M,f⟩;have NA:=M;clear M;obtain⟨a,q,r,v,R⟩:=jo f a q r v R;clear f;clear m;refine Th hK ?_ (fun m=>?_)
      ·exact a.cj
      clear hK K;refine Tc 7 (fun K hK=>?_);go_simp;(go_at_call 25;refine (B_ B.kd B.n (bD p) B.n B.on B.on B.l B.l VA SA B.l.length vc B.l.length sc O4 true (aJ ⟨by rw[H.o.1.kd],rfl,rfl,rfl⟩) (by have:=H.2;omega) R NA).mono ?_);rintro e v27 ⟨rfl,f⟩;obtain⟨a,q,r,v,R,NA⟩:=pR f a q r v R NA;clear f;clear m;refine Th hK ?_ (fun m=>?_)
      ·exact a.cj
      clear hK K;refine T2 8 68 9 69 ?_;refine Td ?_;clear m;go_wp2_with fail;go_roundw
      case rel=>exact⟨k+1,t,by omega,by go_num,q,u,O⟩
      case measure=>simp[intOf];omega
     ·obtain rfl:k=n:=by omega
      go_wp2_with fail;go_ret;exact⟨rfl,NI.trans (q.below.mono NI.size)⟩
   ·have f0:(z0==0)=false:=by simpa using hz
    have f1:(z0 != 0)=true:=by unfold bne;rw[f0];rfl
    clear hz;go_wp2_with fail;refine (mE _).mono ?_;rintro e Oh ⟨rfl,f⟩;have a:=ah (a.later f);clear f;go_wp2_with fail;go_ret;exact⟨by first | rfl | simp,a.below⟩
set_option maxRecDepth 100000 in
theorem lifted (os:Os) (started:os.Started) (H:Type) (enc:TypeId×Value→H) :
  ReturnsInHanded {} Tryz.checked os 9 .any (Rows.opSpecSpec.pre6 enc Tryz.prog Tryz.f9 Rows.opSpecRow.domain false) (Rows.opSpecSpec.post enc Tryz.prog Tryz.f9 false true false false):=by
 refine returnsInHanded_of_change_sized (C:=Tryz.checked) own started (by kernel_rfl) Tryz.func9
  (ChangeSpec.witness6 (enc:=enc) (C:=Tryz.checked) false ⟨#[],#[.slice none 0 0,.slice none 0 0],[]⟩ 8 (by kernel_rfl) (by kernel_rfl) (by kernel_rfl) (by kernel_rfl)) ?_
 intro W base args s gs before b m _ hsz0 _;have a:∀ (j:Nat) t v,Tryz.f9.params[j]?=some t→args[j]?=some v→Value.okWide Tryz.prog W .any base t v:=b;have d:=m;obtain⟨p,q,c,x,rfl,hfz,hnd⟩:=m;have l:DataW.TrodAll enc Tryz.prog W 0 (fun _=>true) true Tryz.f9.params.toList args.toList s p:=c;rw[Tryz.params9]at l a;obtain⟨G,J,d0,d1,p0,p1,rfl,rfl,rfl,u,w⟩:=trodAll_two l;obtain⟨rfl,rfl⟩:=trodVars_none x;obtain⟨n,D,c0,rfl⟩:=okWide_slice Tryz.underlying61 (a 0 61 G rfl rfl);obtain⟨f0,g⟩:=u;obtain⟨A,i⟩:=Cs.ou g;obtain⟨r,F,c1,rfl⟩:=okWide_slice Tryz.underlying25 (a 1 25 J rfl rfl);obtain⟨f1,h⟩:=w
 obtain⟨B,_,k,_⟩:=Tr.strs_of_trod h;refine (walk_any A D n c0 B F r c1 W i k).mono fun e W' ⟨z,y⟩=>?_;subst z;exact⟨_,rfl,law_post d (by kernel_rfl) rfl rfl rfl y⟩
theorem proved:Rows.OpSpecSaid:=
 OpenClaim.holds_of_wide 9 Tryz.f9 rfl rfl rfl rfl rfl rfl rfl ⟨rfl,rfl,rfl,rfl,rfl⟩ rfl rfl rfl rfl rfl (by kernel_rfl) Tryz.func9 (by kernel_rfl)
  (jH (by kernel_rfl)) (by unfold Func.isWrapper;first | (rw[if_pos (by decide +kernel)];kernel_rfl) | (rw[if_neg (by decide +kernel)];exact⟨rfl,rfl⟩))
  (fun os started H a _=>lifted os started H a)
#print axioms proved
end lawOpSpec
end Go.Proofs.YtgeafpaognhokaaGreat
