/- A tree's leaves: the document's. -/
import Derived.Test.YtgeafpaognhokaaGreatG00
import Derived.Test.YtgeafpaognhokaaGreatG10
set_option maxRecDepth 100000
set_option maxHeartbeats 4000000
namespace Go.Proofs.YtgeafpaognhokaaGreat
open ChangeShapes WideShapes ChangeAt RowKit
namespace Tr
open Sp Rw
theorem Fe (X:World) (base a:Nat) (b:X.heap[a]?=some (.cells #[] 9 (0,0))) (c:base≤a):X.ownsRow base 9 1 (.slice (some ⟨a,0,none⟩) 0 0) 0 []:=
 ⟨rfl,.inr ⟨a,0,#[],rfl,c,b,bG,by unfold maxLen;omega,rfl,rfl⟩⟩
theorem wG (X:World) (base d:Nat) (u:X.heap[d]?=some (.cells #[] 9 (0,0))) (f:base≤d) (a:base≤X.heap.size) {B n c:Nat} {A:Option Addr} {p:List ByteArray} (x:Rd X B 1 A n c (strs p)) (hn:n≤800000) :
  ∃ m c3 w3,(Builtin.append_ #[25,25] 25 #[.slice (some ⟨d,0,none⟩) 0 0,.slice A n c]).run Tryz.prog X = .ok (.slice m n c3) w3∧Own w3 base 9 1 m n c3 (strs p)∧Below base X w3∧∀ b,b<X.heap.size→b≠d→w3.heap[b]?=X.heap[b]?:=by
 obtain⟨y,g,i,j,l⟩:=dO vH;obtain⟨v',C,z,q,r,_⟩:=iq (P:=Tryz.prog) X base 25 25 9 y _ 1 16 Tryz.underlying25 g i j l rfl (by omega) (Fe X base d u f) x (by omega) (by omega) a;rw[List.nil_append,Nat.zero_add]at q;obtain⟨s,t,rfl,w⟩:=Own.gX q (jD p);refine⟨s,t,C,z,w,(Below.refl base X).grown r a (fun k v=>?_),fun b f h=>r.block b f (fun e=>?_)⟩
 ·simp[Value.ownBlock]at v;omega
 ·simp[Value.ownBlock]at e;exact h e
theorem vY (Y:World) (base:Nat) {j:Option Addr} {n c3:Nat} {p:List ByteArray} (h:Own Y base 9 1 j n c3 (strs p)) (a:base≤Y.heap.size) {B:Nat} {A:Option Addr} {c:Nat} {key:ByteArray} (u:Rd Y B 1 A 1 c (strs [key])) (hn:n≤800000) :
  ∃ l c4 i,(Builtin.append_ #[25,25] 25 #[.slice j n c3,.slice A 1 c]).run Tryz.prog Y = .ok (.slice l (n+1) c4) i∧Own i base 9 1 l (n+1) c4 (strs (p++[key]))∧Below base Y i:=by
 obtain⟨v,b,d,f,g⟩:=dO vH;obtain⟨v',y,w,m,x,_⟩:=iq (P:=Tryz.prog) Y base 25 25 9 v _ 1 16 Tryz.underlying25 b d f g rfl (by omega) h.row u (by omega) (by omega) a
 have e:strs p++strs [key]=strs (p++[key]):=by simp[strs]
 rw[e]at m;obtain⟨q,r,rfl,t⟩:=Own.gX m (jD _);exact⟨q,r,y,w,t,(Below.refl base Y).grown x a (fun k s=>(h.row.lt k s).1)⟩
theorem rd_key (X:World) (a B:Nat) (b:a<B) (key:ByteArray) (h:X.heap[a]?=some (.cells #[.string key] 9 (0,0))):Rd X B 1 (some ⟨a,0,none⟩) 1 1 (strs [key]):=
 ⟨rfl,bG,jD _,fun _=>⟨_,_,rfl,b,fun j u hu=>by
  rw[Nat.zero_add,cell_of_row X a j _ _ (0,0) h]
  simpa [strs] using hu⟩⟩
def pre (p:List ByteArray) (l:List Lf):List Lf:=l.map fun x=>(p++x.1,x.2)
def j_ (p:List ByteArray) (ks:List (ByteArray×T)) (k:Nat):List Lf:=(ks.take k).flatMap fun kd=>pre (p++[kd.1]) (leaves kd.2)
theorem EI (p:List ByteArray) {ks:List (ByteArray×T)} {k:Nat} (h:k<ks.length):j_ p ks (k+1)=j_ p ks k++pre (p++[(ks[k]).1]) (leaves (ks[k]).2):=by
 unfold j_;rw[dZ h,List.flatMap_append,tX,List.flatMap_nil,kR]
theorem zM (p:List ByteArray) (ks:List (ByteArray×T)) {k:Nat} (h:ks.length=k):j_ p ks k=pre p (below ks):=by
 unfold j_ pre below;rw[eO (by omega),List.map_flatMap]
 congr 1
 funext kd
 rw[List.map_map];refine List.map_congr_left fun x _=>?_;simp
theorem JD (p:List ByteArray) (ks:List (ByteArray×T)) (k:Nat):(j_ p ks k).length≤(below ks).length:=by
 have h:=zM p ks rfl
 have:(j_ p ks k).length≤(j_ p ks ks.length).length:=by
  unfold j_;rw[List.take_length]
  conv=>rhs;rw[← List.take_append_drop k ks,List.flatMap_append,bP]
  omega
 rw[h]at this;unfold pre at this
 rwa [eP]at this
theorem xL (p:List ByteArray) (es:List E) (ks:List (ByteArray×T)):pre p (leaves (.mk es ks))=es.map (fun e=>(p,e))++pre p (below ks):=by
 rw[dL];unfold pre;rw[mD,List.map_map]
 congr 1
 refine List.map_congr_left fun e _=>?_;simp
theorem RX.mono' {w w':World} {ok ok':Nat→Prop} {sz n c:Nat} {A:Option Addr} {xs:List Value} (h:RX w' ok sz A n c xs) (i:RX w ok sz A n c xs) (l:∀ b,ok b→b<w.heap.size→ok' b):RX w' ok' sz A n c xs:=
 ⟨h.len,h.cap,h.one,fun g=>by
  obtain⟨b,o,e,h1,j,k⟩:=h.at_ g;obtain⟨b0,o0,a,d,f,_⟩:=i.at_ g;rw[e]at a;injection a with a;injection a with e1;subst e1
  exact⟨b,o,e,l b d f,j,k⟩⟩
theorem GK:∀ (t:T) (Ae Ak:Option Addr) (ne nk ce ck:Nat) (p:List ByteArray) (Ap:Option Addr) (np cp:Nat) (ok:Nat→Prop) (w:World),np+nodes t≤100000→aF w w.heap.size t ⟨Ae,ne,ce⟩ ⟨Ak,nk,ck⟩→p.length=np→RX w ok 1 Ap np cp (strs p)→(∀ b,w.heap.size≤b→ok b) →
  Calls Tryz.prog 121 #[.agg #[.slice Ae ne ce,.slice Ak nk ck],.slice Ap np cp] w fun e w'=>∃ A m c lr,e = .returned (.slice A m c)∧fF w' w.heap.size 109 A m c (pre p (leaves t)) lr∧dh w' (fun b=>(Value.slice A m c).ownBlock≠some b∧ok b) (pre p (leaves t)) lr∧av w w':=by
 intro t
 induction t using T.ind with
 | h es ks ih=>
  intro Ae Ak ne nk ce ck p Ap np cp ok w hn hr PO hp PN;obtain⟨PK,PL⟩:=bn hr;have HR:=ah hr;have NY:=ah PK;have OB:=ah PL;clear PK PL hr;have IH:=ah ih;have HN:=ah hn
  have hne5:ne≤100000:=by have:=bE es ks;have:=NY.o;omega
  have hnk5:nk≤100000:=by have:=bE es ks;have:=OB.o;omega
  have Pe:ai (ne+(below ks).length≤100000):=by
   have h1:=dw (.mk es ks);rw[dL,bP,eP,NY.o]at h1;unfold ai;omega
  have Od:=ah PO;have HP:=ah hp;have NS:=ah PN
  have hnp5:np≤100000:=by omega
  clear ih hn PO hp PN;obtain⟨g,hg⟩:∃ g,g=w.heap.size:=⟨_,rfl⟩;have HK:=ah (bQ w Ae Ak ne nk ce ck);rw[← hg]at HK;obtain⟨W0,OG⟩:∃ W,W=w.alloc (.cells #[.slice Ae ne ce,.slice Ak nk ck] 35):=⟨_,rfl⟩;rw[← OG]at HK;have HG:=ah hg;have Pf:=ah OG;have k0:=HK.c0;have k1:=HK.c1;clear hg OG;go_enter Tryz.func121,Tryz.ntmps121;go_wp2_with fail;rw[← HG.o,← Pf.o];go_wp2_with fail
  go_loopw [5,12] (fun s i wr=>∃ (k:Nat) (Ax:Option Addr) (cx:Nat) (lr:List (SV×E)),k≤ne∧i = .int .i64 k∧s = .slice Ax k cx∧ai (fF wr W0.heap.size 109 Ax k cx ((es.take k).map fun e=>(p,e)) lr)∧ai (dh wr (fun b=>(Value.slice Ax k cx).ownBlock≠some b∧ok b) ((es.take k).map fun e=>(p,e)) lr)∧ai (av W0 wr)) (fun _ i _=>ne-(intOf i).toNat)
  case atStart=>exact⟨0,none,0,[],by omega,rfl,rfl,fF.nil _ _ _,dh.nil _ _,bN⟩
  case round=>
   obtain⟨k,Ax,cx,lr,hk,rfl,rfl,B,NG,M⟩:=hrel;have d:=ah (HK.later M);clear k0 k1;have k0:=d.c0;have k1:=d.c1
   by_cases NU:k<ne
   ·have D:k<es.length:=by rw[NY.o];exact NU
    obtain⟨b,o,rfl,N,hc⟩:=uR HR (by omega);obtain⟨c0,c1,c2,c3⟩:=hc k D;have c0:=(d.below.cell (p:=⟨b,o+k*4,none⟩) N).trans c0;have c1:=(d.below.cell (p:=⟨b,o+k*4+1,none⟩) N).trans c1;have c2:=(d.below.cell (p:=⟨b,o+k*4+2,none⟩) N).trans c2;have c3:=(d.below.cell (p:=⟨b,o+k*4+3,none⟩) N).trans c3;obtain⟨e,he⟩:∃ e,e=es[k]:=⟨_,rfl⟩
    have Pd:ai ((es.take (k+1)).map (fun e=>(p,e))=(es.take k).map (fun e=>(p,e))++[(p,e)]):=ah (by rw[dZ D,mD,he];rfl)
    rw[← he]at c0 c1 c2 c3
    have OH:RX wr (fun b=>(Value.slice Ax k cx).ownBlock≠some b∧ok b) 1 Ap np cp (strs p):=by
     refine (HP.keep d.below.size (fun b _ NU=>d.below.block b NU)).mono' HP (fun b Qe NU=>⟨fun e=>?_,Qe⟩);have h1:=(B.own.row.lt b e).1;have h2:=Pf.o
     have h3:W0.heap.size=w.heap.size+1:=by rw[h2];simp
     omega
    obtain⟨A6,c6,w6,r1,Ol,PE,Nz⟩:=fF.push (e:=e) (s:=⟨Ap,np,cp⟩) B M.size Od (OH.mono fun b N _=>N.1) (by omega)
    have OC:ai (fF w6 W0.heap.size 109 A6 (k+1) c6 ((es.take (k+1)).map fun e=>(p,e)) (lr++[(⟨Ap,np,cp⟩,e)])):=ah (by rw[Pd.o];exact Ol)
    have OZ:ai (dh w6 (fun b=>(Value.slice A6 (k+1) c6).ownBlock≠some b∧ok b) ((es.take (k+1)).map fun e=>(p,e)) (lr++[(⟨Ap,np,cp⟩,e)])):=ah (by rw[Pd.o];exact Nz ok _ _ (NG.app (dh.one Od OH)))
    have OU:=ah (M.trans PE);obtain⟨ea,en,es',ev⟩:=e;dsimp only at c0 c1 c2 c3 r1;have Po:=ah r1;clear hc he OH Ol Nz PE r1;go_wp2_with (at_builtin;refine Lib.wpList_append_run _ rfl _ _ _ _ rfl _ _ rfl rfl _ _ Po ?_);go_roundw
    case rel=>exact⟨k+1,A6,c6,_,by omega,by go_num,rfl,OC,OZ,OU⟩
    case measure=>simp[intOf];omega
   ·obtain rfl:k=ne:=by omega
    have N8:es.take k=es:=eO (by rw[NY.o];omega);have NZ:=B.o;have Oe:=NG.o;rw[N8]at NZ Oe;have Qc:=ah NZ;have Qd:=ah Oe;clear N8 NZ Oe B NG;go_wp2_with fail
    go_loopw [5,29] (fun s i wr=>∃ (j:Nat) (Ax:Option Addr) (m cx:Nat) (lr:List (SV×E)),j≤nk∧i = .int .i64 j∧s = .slice Ax m cx∧ai (fF wr W0.heap.size 109 Ax m cx (es.map (fun e=>(p,e))++j_ p ks j) lr)∧ai (dh wr (fun b=>(Value.slice Ax m cx).ownBlock≠some b∧ok b) (es.map (fun e=>(p,e))++j_ p ks j) lr)∧ai (av W0 wr)) (fun _ i _=>nk-(intOf i).toNat)
    case atStart=>exact⟨0,Ax,k,cx,lr,by omega,rfl,rfl,by unfold ai;simpa [j_] using Qc.o,by unfold ai;simpa [j_] using Qd.o,M⟩
    case round=>
     obtain⟨j,Ax,m,cx,lr,hj,rfl,rfl,B,NG,M⟩:=hrel;have d:=ah (HK.later M);clear k0 k1;have k0:=d.c0;have k1:=d.c1
     by_cases NU:j<nk
     ·have D:j<ks.length:=by rw[OB.o];exact NU
      obtain⟨b,o,rfl,N,hc⟩:=iJ HR (by omega);obtain⟨⟨O7,OI,OD⟩,⟨O8,OJ,OE⟩,c0,c1,c2,Oy⟩:=hc j D;dsimp only at c0 c1 c2;have c0:=(d.below.cell (p:=⟨b,o+j*3,none⟩) N).trans c0;have c1:=(d.below.cell (p:=⟨b,o+j*3+1,none⟩) N).trans c1;have c2:=(d.below.cell (p:=⟨b,o+j*3+2,none⟩) N).trans c2;obtain⟨l,Oh⟩:∃ l,l=(ks[j]).1:=⟨_,rfl⟩;rw[← Oh]at c0;have NN:=EI p D;rw[← Oh]at NN;have N7:=ah NN;have O:b<wr.heap.size:=aL wr _ c0;have NT:g<wr.heap.size:=aL wr _ k0
      have hm5:m≤100000:=by
       have h1:=B.len;rw[bP,eP,NY.o]at h1;have h2:=JD p ks j;have h3:=Pe.o;omega
      have Oj:Rd wr wr.heap.size 1 Ap np cp (strs p):=(HP.rd.below d.below).more d.below.size
      -- the three orders
      have Og:av wr (wr.drew.alloc (.cells #[] 9)):=((Below.refl _ wr).drew).alloc (bG) _;have PG:av wr (wr.drew.alloc (.cells #[.string l] 9)):=((Below.refl _ wr).drew).alloc (bG) _;have NQ:av wr ((wr.drew.alloc (.cells #[] 9)).alloc (.cells #[.string l] 9)):=Og.alloc (by have h:wr.drew.heap.size=wr.heap.size:=rfl;first | (simp;done) | (simp;omega) | (simp[h];done) | (simp[h];omega)) _;have NR:av wr ((wr.drew.alloc (.cells #[.string l] 9)).alloc (.cells #[] 9)):=PG.alloc (by have h:wr.drew.heap.size=wr.heap.size:=rfl;first | (simp;done) | (simp;omega) | (simp[h];done) | (simp[h];omega)) _;have r:wr.drew.heap.size=wr.heap.size:=rfl;obtain⟨A3A,c3A,NV,PS,O0,Om,PI⟩:=wG (wr.drew.alloc (.cells #[] 9)) wr.heap.size (wr.heap.size) (by have h:=heap_alloc_new wr.drew (.cells #[] 9);simpa [r] using h) (by omega) (by first | (simp[r];done) | (simp[r];omega)) ((Oj.below Og).more Og.size) (by omega)
      have F:av wr NV:=Og.trans Om;have NP:av NV (NV.alloc (.cells #[.string l] 9)):=(bN).alloc (bG) _;obtain⟨OP,Pp,OL,PW,O4,Ot⟩:=vY (NV.alloc (.cells #[.string l] 9)) wr.heap.size (aG O0 NP) (aN F.size NP.size) (rd_key _ NV.heap.size (NV.heap.size+1) (by omega) l (heap_alloc_new _ _)) (by omega);have N9:av wr OL:=F.trans ((NP.mono F.size).trans Ot);have Pg:=ah PS;have Pk:=ah PW;have Oa:=ah O4;have Q:=ah N9;have Pt:=(F.cell (p:=⟨b,o+j*3,none⟩) O).trans c0;have Px:=(F.cell (p:=⟨g,1,none⟩) NT).trans k1;have P5:=(N9.cell (p:=⟨b,o+j*3,none⟩) O).trans c0;have P8:=(N9.cell (p:=⟨g,1,none⟩) NT).trans k1
      have O9:=ah (And.intro Pt Px);have OV:=ah (And.intro P5 P8);clear PS O0 Om PI F PW O4 Ot N9 Pt Px P5 P8 NP;obtain⟨A3B,c3B,Qa,PU,O1,Oo,Ow⟩:=wG ((wr.drew.alloc (.cells #[] 9)).alloc (.cells #[.string l] 9)) wr.heap.size (wr.heap.size) (by have h:=(heap_alloc_old (wr.drew.alloc (.cells #[] 9)) (.cells #[.string l] 9) (show wr.heap.size<_ by simp[r])).trans (heap_alloc_new wr.drew (.cells #[] 9));simpa [r] using h) (by omega) (by first | (simp[r];done) | (simp[r];omega)) ((Oj.below NQ).more NQ.size) (by omega);have Z:av wr Qa:=NQ.trans Oo;obtain⟨OQ,Pq,OM,PX,O5,Ou⟩:=vY Qa wr.heap.size O1 Z.size (rd_key _ (wr.heap.size+1) (wr.heap.size+1+1) (by omega) l ((Ow (wr.heap.size+1) (by simp[r];try omega) (by omega)).trans (by first | (have h:=heap_alloc_new (wr.drew.alloc (.cells #[] 9)) (.cells #[.string l] 9);simpa [r] using h) | (have h:=(heap_alloc_old (wr.drew.alloc (.cells #[.string l] 9)) (.cells #[] 9) (show wr.heap.size<_ by simp[r])).trans (heap_alloc_new wr.drew (.cells #[.string l] 9));simpa [r] using h)))) (by omega)
      have N_:av wr OM:=Z.trans Ou;have Ph:=ah PU;have Pm:=ah PX;have Ob:=ah O5;have R:=ah N_;have Pv:=(Z.cell (p:=⟨b,o+j*3,none⟩) O).trans c0;have Py:=(Z.cell (p:=⟨g,1,none⟩) NT).trans k1;have P6:=(N_.cell (p:=⟨b,o+j*3,none⟩) O).trans c0;have P9:=(N_.cell (p:=⟨g,1,none⟩) NT).trans k1;have O_:=ah (And.intro Pv Py);have OW:=ah (And.intro P6 P9);clear PU O1 Oo Ow Z PX O5 Ou N_ Pv Py P6 P9;obtain⟨A3C,c3C,Qb,PV,O3,Oq,Ox⟩:=wG ((wr.drew.alloc (.cells #[.string l] 9)).alloc (.cells #[] 9)) wr.heap.size (wr.heap.size+1) (by have h:=heap_alloc_new (wr.drew.alloc (.cells #[.string l] 9)) (.cells #[] 9);simpa [r] using h) (by omega) (by first | (simp[r];done) | (simp[r];omega)) ((Oj.below NR).more NR.size) (by omega)
      have Ny:av wr Qb:=NR.trans Oq;obtain⟨OT,Ps,OO,PZ,O6,Ov⟩:=vY Qb wr.heap.size O3 Ny.size (rd_key _ (wr.heap.size) (wr.heap.size+1) (by omega) l ((Ox (wr.heap.size) (by simp[r];try omega) (by omega)).trans (by first | (have h:=heap_alloc_new (wr.drew.alloc (.cells #[] 9)) (.cells #[.string l] 9);simpa [r] using h) | (have h:=(heap_alloc_old (wr.drew.alloc (.cells #[.string l] 9)) (.cells #[] 9) (show wr.heap.size<_ by simp[r])).trans (heap_alloc_new wr.drew (.cells #[.string l] 9));simpa [r] using h)))) (by omega);have NA:av wr OO:=Ny.trans Ov;have Pj:=ah PV;have Pn:=ah PZ;have Oc:=ah O6;have U:=ah NA;have Pw:=(Ny.cell (p:=⟨b,o+j*3,none⟩) O).trans c0;have Pz:=(Ny.cell (p:=⟨g,1,none⟩) NT).trans k1
      have P7:=(NA.cell (p:=⟨b,o+j*3,none⟩) O).trans c0;have P_:=(NA.cell (p:=⟨g,1,none⟩) NT).trans k1;have OA:=ah (And.intro Pw Pz);have OX:=ah (And.intro P7 P_);clear PV O3 Oq Ox Ny PZ O6 Ov NA Pw Pz P7 P_;have NW:=ah Oy;clear hc Oh NN Oj Oy Og PG NQ NR;go_wp2_with fail;refine Rk (S:=fun W=>W.cell? ⟨b,o+j*3,none⟩=some (.string l)∧W.cell? ⟨g,1,none⟩=some (.slice (some ⟨b,o,none⟩) nk ck)) (fun hHeld=>?_);refine T4 1 33 3 35 4 36 5 37 ?_;refine T3 6 38 7 39 8 40 ?_;refine wpAnyH_ready (rs:=[0,9]) (by kernel_rfl) (by simp) ?_;refine AllReadyH.cons (o:=⟨some 32,_,_,_,_,_⟩) rfl (fun K C=>?_) (AllReadyH.cons (o:=⟨some 41,_,_,_,_,_⟩) rfl (fun K C=>?_) (AllReadyH.nil))
      ·go_simp
       refine Th C ?_ (fun a=>?_)
       ·(try dsimp only);go_keep
       clear C K hHeld;have hHeld:=a;clear a;refine wpAnyH_ready (rs:=[2,9]) (by kernel_rfl) (by simp) ?_;refine AllReadyH.cons (o:=⟨some 34,_,_,_,_,_⟩) rfl (fun K C=>?_) (AllReadyH.cons (o:=⟨some 41,_,_,_,_,_⟩) rfl (fun K C=>?_) (AllReadyH.nil))
       ·refine bg _ _ _ rfl rfl rfl Pg ?_
        clear hHeld;refine Th C ?_ (fun hHeld=>?_)
        ·exact O9.o
        clear C K;have d0:=O9.1;have d1:=O9.2;refine Tc 9 (fun K C=>?_);go_simp;refine Th C ?_ (fun a=>?_)
        ·(try dsimp only);go_keep
        clear C K hHeld;have hHeld:=a;clear a;refine Tc 10 (fun K C=>?_);refine bg _ _ _ rfl rfl rfl Pk ?_;clear hHeld;refine Th C ?_ (fun hHeld=>?_)
        ·exact OV.o
        clear C K;refine Tk 11 8 ?_;refine Td ?_;have e1:=OV.2;have e2:=(Q.cell (p:=⟨b,o+j*3+1,none⟩) O).trans c1;have e3:=(Q.cell (p:=⟨b,o+j*3+2,none⟩) O).trans c2;have Oi:=Q.size
        have NK:RX OL (fun b=>(Value.slice Ax m cx).ownBlock≠some b∧ok b) 1 OP (np+1) Pp (strs (p++[l])):=by
         refine⟨Oa.rd.len,Oa.rd.cap,jD _,fun hn=>?_⟩;obtain⟨q,eq,q1,q2,_,q4⟩:=Sp.Own.place Oa hn;refine⟨q,0,eq,⟨fun e=>?_,NS q (by have:=d.below.size;omega)⟩,q2,fun j u hu=>by rw[Nat.zero_add];exact q4 j u hu⟩;have:=(B.own.row.lt q e).2;omega
        have x:=d.below.trans (Q.mono d.below.size);have y:=IH.o _ (bT D) O7 O8 OI OJ OD OE (p++[l]) OP (np+1) Pp (fun b=>(Value.slice Ax m cx).ownBlock≠some b∧ok b) OL (by have h1:=HN.o;have h2:=pX (f:=fun k:ByteArray×T=>nodes k.2) (bT D);rw[bJ]at h1;omega) (aF.more x.size _ (aF.below NW x)) (by rw[bP,Od.o];rfl) NK (fun b N=>⟨fun e=>by have:=(B.own.row.lt b e).2;omega,NS b (by have:=d.below.size;omega)⟩);have X:=ah y;have NE:=ah (B.later Q);have NH:=ah (NG.later Q);have V:=ah (M.trans (Q.mono M.size));clear NK y x hHeld d0 d1;go_wp2_with fail;refine X.mono ?_;rintro e w5 ⟨A6,m6,c6,NM,rfl,n,z,v⟩
        have G:=NE.later v;have J:=NH.later v;have L:W0.heap.size≤w5.heap.size:=aN V.size v.size
        have Oz:m6≤100000:=by
         have h1:=n.len;have h2:=dw (ks[j]).2;have h3:=dM (es:=es) (bT D);have h4:=HN.o;unfold pre at h1;rw[eP]at h1;omega
        obtain⟨A7,c7,w7,r7,H,NJ,Nz⟩:=G.app Tryz.underlying106 Cq rfl (by omega) L n.own.rd n.len (z.mono fun b N _=>N.2.1) (by omega)
        have NF:ai (fF w7 W0.heap.size 109 A7 (m+m6) c7 (es.map (fun e=>(p,e))++j_ p ks (j+1)) (lr++NM)):=ah (by rw[N7.o,← oh];exact H)
        have NI:ai (dh w7 (fun b=>(Value.slice A7 (m+m6) c7).ownBlock≠some b∧ok b) (es.map (fun e=>(p,e))++j_ p ks (j+1)) (lr++NM)):=ah (by rw[N7.o,← oh];exact Nz ok _ _ (J.app (z.mono fun b N _=>N.2)))
        have NC:=ah ((V.trans (v.mono V.size)).trans NJ);have Y:=ah r7;clear e1 e2 e3 Oi n z v G J L r7 H NJ Nz;go_wp2_with (at_builtin;refine Lib.wpList_append_run _ rfl _ _ _ _ rfl _ _ rfl rfl _ _ Y ?_);go_roundw
        case rel=>exact⟨j+1,A7,m+m6,c7,_,by omega,by go_num,rfl,NF,NI,NC⟩
        case measure=>simp[intOf];omega
       ·go_simp
        refine Th C ?_ (fun a=>?_)
        ·(try dsimp only);go_keep
        clear C K hHeld;have hHeld:=a;clear a;refine Tc 2 (fun K C=>?_);refine bg _ _ _ rfl rfl rfl Ph ?_;clear hHeld;refine Th C ?_ (fun hHeld=>?_)
        ·exact O_.o
        clear C K;have d0:=O_.1;have d1:=O_.2;refine Tc 10 (fun K C=>?_);refine bg _ _ _ rfl rfl rfl Pm ?_;clear hHeld;refine Th C ?_ (fun hHeld=>?_)
        ·exact OW.o
        clear C K;refine Tk 11 8 ?_;refine Td ?_;have e1:=OW.2;have e2:=(R.cell (p:=⟨b,o+j*3+1,none⟩) O).trans c1;have e3:=(R.cell (p:=⟨b,o+j*3+2,none⟩) O).trans c2;have Oi:=R.size
        have NK:RX OM (fun b=>(Value.slice Ax m cx).ownBlock≠some b∧ok b) 1 OQ (np+1) Pq (strs (p++[l])):=by
         refine⟨Ob.rd.len,Ob.rd.cap,jD _,fun hn=>?_⟩;obtain⟨q,eq,q1,q2,_,q4⟩:=Sp.Own.place Ob hn;refine⟨q,0,eq,⟨fun e=>?_,NS q (by have:=d.below.size;omega)⟩,q2,fun j u hu=>by rw[Nat.zero_add];exact q4 j u hu⟩;have:=(B.own.row.lt q e).2;omega
        have x:=d.below.trans (R.mono d.below.size);have y:=IH.o _ (bT D) O7 O8 OI OJ OD OE (p++[l]) OQ (np+1) Pq (fun b=>(Value.slice Ax m cx).ownBlock≠some b∧ok b) OM (by have h1:=HN.o;have h2:=pX (f:=fun k:ByteArray×T=>nodes k.2) (bT D);rw[bJ]at h1;omega) (aF.more x.size _ (aF.below NW x)) (by rw[bP,Od.o];rfl) NK (fun b N=>⟨fun e=>by have:=(B.own.row.lt b e).2;omega,NS b (by have:=d.below.size;omega)⟩);have X:=ah y;have NE:=ah (B.later R);have NH:=ah (NG.later R);have V:=ah (M.trans (R.mono M.size));clear NK y x hHeld d0 d1;go_wp2_with fail;refine X.mono ?_;rintro e w5 ⟨A6,m6,c6,NM,rfl,n,z,v⟩
        have G:=NE.later v;have J:=NH.later v;have L:W0.heap.size≤w5.heap.size:=aN V.size v.size
        have Oz:m6≤100000:=by
         have h1:=n.len;have h2:=dw (ks[j]).2;have h3:=dM (es:=es) (bT D);have h4:=HN.o;unfold pre at h1;rw[eP]at h1;omega
        obtain⟨A7,c7,w7,r7,H,NJ,Nz⟩:=G.app Tryz.underlying106 Cq rfl (by omega) L n.own.rd n.len (z.mono fun b N _=>N.2.1) (by omega)
        have NF:ai (fF w7 W0.heap.size 109 A7 (m+m6) c7 (es.map (fun e=>(p,e))++j_ p ks (j+1)) (lr++NM)):=ah (by rw[N7.o,← oh];exact H)
        have NI:ai (dh w7 (fun b=>(Value.slice A7 (m+m6) c7).ownBlock≠some b∧ok b) (es.map (fun e=>(p,e))++j_ p ks (j+1)) (lr++NM)):=ah (by rw[N7.o,← oh];exact Nz ok _ _ (J.app (z.mono fun b N _=>N.2)))
        have NC:=ah ((V.trans (v.mono V.size)).trans NJ);have Y:=ah r7;clear e1 e2 e3 Oi n z v G J L r7 H NJ Nz;go_wp2_with (at_builtin;refine Lib.wpList_append_run _ rfl _ _ _ _ rfl _ _ rfl rfl _ _ Y ?_);go_roundw
        case rel=>exact⟨j+1,A7,m+m6,c7,_,by omega,by go_num,rfl,NF,NI,NC⟩
        case measure=>simp[intOf];omega
      ·go_simp
       refine Th C ?_ (fun a=>?_)
       ·(try dsimp only);go_keep
       clear C K hHeld;have hHeld:=a;clear a;refine Tc 0 (fun K C=>?_);go_simp;refine Th C ?_ (fun a=>?_)
       ·(try dsimp only);go_keep
       clear C K hHeld;have hHeld:=a;clear a;refine Tc 2 (fun K C=>?_);refine bg _ _ _ rfl rfl rfl Pj ?_;clear hHeld;refine Th C ?_ (fun hHeld=>?_)
       ·exact OA.o
       clear C K;have d0:=OA.1;have d1:=OA.2;refine Tc 10 (fun K C=>?_);refine bg _ _ _ rfl rfl rfl Pn ?_;clear hHeld;refine Th C ?_ (fun hHeld=>?_)
       ·exact OX.o
       clear C K;refine Tk 11 8 ?_;refine Td ?_;have e1:=OX.2;have e2:=(U.cell (p:=⟨b,o+j*3+1,none⟩) O).trans c1;have e3:=(U.cell (p:=⟨b,o+j*3+2,none⟩) O).trans c2;have Oi:=U.size
       have NK:RX OO (fun b=>(Value.slice Ax m cx).ownBlock≠some b∧ok b) 1 OT (np+1) Ps (strs (p++[l])):=by
        refine⟨Oc.rd.len,Oc.rd.cap,jD _,fun hn=>?_⟩;obtain⟨q,eq,q1,q2,_,q4⟩:=Sp.Own.place Oc hn;refine⟨q,0,eq,⟨fun e=>?_,NS q (by have:=d.below.size;omega)⟩,q2,fun j u hu=>by rw[Nat.zero_add];exact q4 j u hu⟩;have:=(B.own.row.lt q e).2;omega
       have x:=d.below.trans (U.mono d.below.size);have y:=IH.o _ (bT D) O7 O8 OI OJ OD OE (p++[l]) OT (np+1) Ps (fun b=>(Value.slice Ax m cx).ownBlock≠some b∧ok b) OO (by have h1:=HN.o;have h2:=pX (f:=fun k:ByteArray×T=>nodes k.2) (bT D);rw[bJ]at h1;omega) (aF.more x.size _ (aF.below NW x)) (by rw[bP,Od.o];rfl) NK (fun b N=>⟨fun e=>by have:=(B.own.row.lt b e).2;omega,NS b (by have:=d.below.size;omega)⟩);have X:=ah y;have NE:=ah (B.later U);have NH:=ah (NG.later U);have V:=ah (M.trans (U.mono M.size));clear NK y x hHeld d0 d1;go_wp2_with fail;refine X.mono ?_;rintro e w5 ⟨A6,m6,c6,NM,rfl,n,z,v⟩
       have G:=NE.later v;have J:=NH.later v;have L:W0.heap.size≤w5.heap.size:=aN V.size v.size
       have Oz:m6≤100000:=by
        have h1:=n.len;have h2:=dw (ks[j]).2;have h3:=dM (es:=es) (bT D);have h4:=HN.o;unfold pre at h1;rw[eP]at h1;omega
       obtain⟨A7,c7,w7,r7,H,NJ,Nz⟩:=G.app Tryz.underlying106 Cq rfl (by omega) L n.own.rd n.len (z.mono fun b N _=>N.2.1) (by omega)
       have NF:ai (fF w7 W0.heap.size 109 A7 (m+m6) c7 (es.map (fun e=>(p,e))++j_ p ks (j+1)) (lr++NM)):=ah (by rw[N7.o,← oh];exact H)
       have NI:ai (dh w7 (fun b=>(Value.slice A7 (m+m6) c7).ownBlock≠some b∧ok b) (es.map (fun e=>(p,e))++j_ p ks (j+1)) (lr++NM)):=ah (by rw[N7.o,← oh];exact Nz ok _ _ (J.app (z.mono fun b N _=>N.2)))
       have NC:=ah ((V.trans (v.mono V.size)).trans NJ);have Y:=ah r7;clear e1 e2 e3 Oi n z v G J L r7 H NJ Nz;go_wp2_with (at_builtin;refine Lib.wpList_append_run _ rfl _ _ _ _ rfl _ _ rfl rfl _ _ Y ?_);go_roundw
       case rel=>exact⟨j+1,A7,m+m6,c7,_,by omega,by go_num,rfl,NF,NI,NC⟩
       case measure=>simp[intOf];omega
     ·obtain rfl:j=nk:=by omega
      have N8:=zM p ks OB
      have OY:ai (fF wr W0.heap.size 109 Ax m cx (pre p (leaves (.mk es ks))) lr):=ah (by rw[xL,← N8];exact B.o)
      have Pb:ai (dh wr (fun b=>(Value.slice Ax m cx).ownBlock≠some b∧ok b) (pre p (leaves (.mk es ks))) lr):=ah (by rw[xL,← N8];exact NG.o)
      clear N8;go_wp2_with fail;go_ret;exact⟨Ax,m,cx,lr,rfl,OY.mono HK.below.size,Pb,d.below⟩
theorem pre_nil (l:List Lf):pre [] l=l:=by unfold pre;simp
theorem x9 (t:T) (Ae Ak:Option Addr) (ne nk ce ck:Nat) (w:World) (hn:nodes t≤100000) (j:aF w w.heap.size t ⟨Ae,ne,ce⟩ ⟨Ak,nk,ck⟩) :
  Calls Tryz.prog 69 #[.agg #[.slice Ae ne ce,.slice Ak nk ck]] w fun e w'=>∃ A c,e = .returned (.slice A (leaves t).length c)∧mh w' w'.heap.size A (leaves t).length c (leaves t)∧av w w':=by
 have a:av w (w.alloc (.cells #[.slice Ae ne ce,.slice Ak nk ck] 35)):=Dt.ay _ _ _;have k:=ah (GK t Ae Ak ne nk ce ck [] none 0 0 (fun _=>True) _ (by omega) (aF.more a.size _ (aF.below j a)) rfl ⟨rfl,bG,by simp[strs],fun h=>absurd h (by omega)⟩ (fun _ _=>trivial));have g:=ah a;clear j a;go_enter Tryz.func69,Tryz.ntmps69;go_wp2_with fail;refine k.mono ?_;rintro e w2 ⟨A,m,c,lr,rfl,i,_,d⟩;have f:=ah (g.trans (d.mono g.size));have b:=i.rd;rw[pre_nil]at b;obtain rfl:(leaves t).length=m:=b.1;have l:=ah b;clear d i b;go_wp2_with fail;go_ret;exact⟨A,c,rfl,l,f⟩
end Tr
end Go.Proofs.YtgeafpaognhokaaGreat
