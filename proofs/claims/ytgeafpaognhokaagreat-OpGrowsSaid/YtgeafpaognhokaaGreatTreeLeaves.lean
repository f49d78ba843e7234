/- A tree's leaves: the document's. -/
import Derived.Test.YtgeafpaognhokaaGreatG00
import Derived.Test.YtgeafpaognhokaaGreatG10
set_option maxRecDepth 100000
set_option maxHeartbeats 4000000
namespace Go.Proofs.YtgeafpaognhokaaGreat
open ChangeShapes WideShapes ChangeAt RowKit
namespace Tr
open Sp Rw
theorem Fa (X:World) (base a:Nat) (b:X.heap[a]?=some (.cells #[] 9 (0,0))) (c:base≤a):X.ownsRow base 9 1 (.slice (some ⟨a,0,none⟩) 0 0) 0 []:=
 ⟨rfl,.inr ⟨a,0,#[],rfl,c,b,bG,by unfold maxLen;omega,rfl,rfl⟩⟩
theorem wD (X:World) (base d:Nat) (u:X.heap[d]?=some (.cells #[] 9 (0,0))) (f:base≤d) (a:base≤X.heap.size) {B n c:Nat} {A:Option Addr} {p:List ByteArray} (x:Rd X B 1 A n c (strs p)) (hn:n≤800000) :
  ∃ m c3 w3,(Builtin.append_ #[25,25] 25 #[.slice (some ⟨d,0,none⟩) 0 0,.slice A n c]).run Tryz.prog X = .ok (.slice m n c3) w3∧Own w3 base 9 1 m n c3 (strs p)∧Below base X w3∧∀ b,b<X.heap.size→b≠d→w3.heap[b]?=X.heap[b]?:=by
 obtain⟨y,g,i,j,l⟩:=dO vE;obtain⟨v',C,z,q,r,_⟩:=ic (P:=Tryz.prog) X base 25 25 9 y _ 1 16 Tryz.underlying25 g i j l rfl (by omega) (Fa X base d u f) x (by omega) (by omega) a;rw[List.nil_append,Nat.zero_add]at q;obtain⟨s,t,rfl,w⟩:=Own.gW q (jD p);refine⟨s,t,C,z,w,(Below.refl base X).grown r a (fun k v=>?_),fun b f h=>r.block b f (fun e=>?_)⟩
 ·simp[Value.ownBlock]at v;omega
 ·simp[Value.ownBlock]at e;exact h e
theorem vV (Y:World) (base:Nat) {j:Option Addr} {n c3:Nat} {p:List ByteArray} (h:Own Y base 9 1 j n c3 (strs p)) (a:base≤Y.heap.size) {B:Nat} {A:Option Addr} {c:Nat} {key:ByteArray} (u:Rd Y B 1 A 1 c (strs [key])) (hn:n≤800000) :
  ∃ l c4 i,(Builtin.append_ #[25,25] 25 #[.slice j n c3,.slice A 1 c]).run Tryz.prog Y = .ok (.slice l (n+1) c4) i∧Own i base 9 1 l (n+1) c4 (strs (p++[key]))∧Below base Y i:=by
 obtain⟨v,b,d,f,g⟩:=dO vE;obtain⟨v',y,w,m,x,_⟩:=ic (P:=Tryz.prog) Y base 25 25 9 v _ 1 16 Tryz.underlying25 b d f g rfl (by omega) h.row u (by omega) (by omega) a
 have e:strs p++strs [key]=strs (p++[key]):=by simp[strs]
 rw[e]at m;obtain⟨q,r,rfl,t⟩:=Own.gW m (jD _);exact⟨q,r,y,w,t,(Below.refl base Y).grown x a (fun k s=>(h.row.lt k s).1)⟩
theorem rd_key (X:World) (a B:Nat) (b:a<B) (key:ByteArray) (h:X.heap[a]?=some (.cells #[.string key] 9 (0,0))):Rd X B 1 (some ⟨a,0,none⟩) 1 1 (strs [key]):=
 ⟨rfl,bG,jD _,fun _=>⟨_,_,rfl,b,fun j u hu=>by
  rw[Nat.zero_add,cell_of_row X a j _ _ (0,0) h]
  simpa [strs] using hu⟩⟩
def pre (p:List ByteArray) (l:List Lf):List Lf:=l.map fun x=>(p++x.1,x.2)
def j_ (p:List ByteArray) (ks:List (ByteArray×T)) (k:Nat):List Lf:=(ks.take k).flatMap fun kd=>pre (p++[kd.1]) (leaves kd.2)
theorem EG (p:List ByteArray) {ks:List (ByteArray×T)} {k:Nat} (h:k<ks.length):j_ p ks (k+1)=j_ p ks k++pre (p++[(ks[k]).1]) (leaves (ks[k]).2):=by
 unfold j_;rw[dZ h,List.flatMap_append,tQ,List.flatMap_nil,kT]
theorem zK (p:List ByteArray) (ks:List (ByteArray×T)) {k:Nat} (h:ks.length=k):j_ p ks k=pre p (below ks):=by
 unfold j_ pre below;rw[eH (by omega),List.map_flatMap]
 congr 1
 funext kd
 rw[List.map_map];refine List.map_congr_left fun x _=>?_;simp
theorem JB (p:List ByteArray) (ks:List (ByteArray×T)) (k:Nat):(j_ p ks k).length≤(below ks).length:=by
 have h:=zK p ks rfl
 have:(j_ p ks k).length≤(j_ p ks ks.length).length:=by
  unfold j_;rw[List.take_length]
  conv=>rhs;rw[← List.take_append_drop k ks,List.flatMap_append,bP]
  omega
 rw[h]at this;unfold pre at this
 rwa [eO]at this
theorem xJ (p:List ByteArray) (es:List E) (ks:List (ByteArray×T)):pre p (leaves (.mk es ks))=es.map (fun e=>(p,e))++pre p (below ks):=by
 rw[dL];unfold pre;rw[mD,List.map_map]
 congr 1
 refine List.map_congr_left fun e _=>?_;simp
theorem RX.mono' {w w':World} {ok ok':Nat→Prop} {sz n c:Nat} {A:Option Addr} {xs:List Value} (h:RX w' ok sz A n c xs) (i:RX w ok sz A n c xs) (l:∀ b,ok b→b<w.heap.size→ok' b):RX w' ok' sz A n c xs:=
 ⟨h.len,h.cap,h.one,fun g=>by
  obtain⟨b,o,e,h1,j,k⟩:=h.at_ g;obtain⟨b0,o0,a,d,f,_⟩:=i.at_ g;rw[e]at a;injection a with a;injection a with e1;subst e1
  exact⟨b,o,e,l b d f,j,k⟩⟩
theorem GI:∀ (t:T) (Ae Ak:Option Addr) (ne nk ce ck:Nat) (p:List ByteArray) (Ap:Option Addr) (np cp:Nat) (ok:Nat→Prop) (w:World),np+nodes t≤100000→aF w w.heap.size t ⟨Ae,ne,ce⟩ ⟨Ak,nk,ck⟩→p.length=np→RX w ok 1 Ap np cp (strs p)→(∀ b,w.heap.size≤b→ok b) →
  Calls Tryz.prog 121 #[.agg #[.slice Ae ne ce,.slice Ak nk ck],.slice Ap np cp] w fun e w'=>∃ A m c lr,e = .returned (.slice A m c)∧fE w' w.heap.size 109 A m c (pre p (leaves t)) lr∧dh w' (fun b=>(Value.slice A m c).ownBlock≠some b∧ok b) (pre p (leaves t)) lr∧av w w':=by
 intro t
 induction t using T.ind with
 | h es ks ih=>
  intro Ae Ak ne nk ce ck p Ap np cp ok w hn hr PU hp PS;obtain⟨PN,PO⟩:=bn hr;have HR:=ah hr;have NV:=ah PN;have O_:=ah PO;clear PN PO hr;have IH:=ah ih;have HN:=ah hn
  have hne5:ne≤100000:=by have:=bE es ks;have:=NV.o;omega
  have hnk5:nk≤100000:=by have:=bE es ks;have:=O_.o;omega
  have Pb:ai (ne+(below ks).length≤100000):=by
   have h1:=dw (.mk es ks);rw[dL,bP,eO,NV.o]at h1;unfold ai;omega
  have Ob:=ah PU;have HP:=ah hp;have NQ:=ah PS
  have hnp5:np≤100000:=by omega
  clear ih hn PU hp PS;obtain⟨g,hg⟩:∃ g,g=w.heap.size:=⟨_,rfl⟩;have HK:=ah (bQ w Ae Ak ne nk ce ck);rw[← hg]at HK;obtain⟨W0,OD⟩:∃ W,W=w.alloc (.cells #[.slice Ae ne ce,.slice Ak nk ck] 35):=⟨_,rfl⟩;rw[← OD]at HK;have HG:=ah hg;have Pd:=ah OD;have k0:=HK.c0;have k1:=HK.c1;clear hg OD;go_enter Tryz.func121,Tryz.ntmps121;go_wp2_with fail;rw[← HG.o,← Pd.o];go_wp2_with fail
  go_loopw [5,12] (fun s i wr=>∃ (k:Nat) (Ax:Option Addr) (cx:Nat) (lr:List (SV×E)),k≤ne∧i = .int .i64 k∧s = .slice Ax k cx∧ai (fE wr W0.heap.size 109 Ax k cx ((es.take k).map fun e=>(p,e)) lr)∧ai (dh wr (fun b=>(Value.slice Ax k cx).ownBlock≠some b∧ok b) ((es.take k).map fun e=>(p,e)) lr)∧ai (av W0 wr)) (fun _ i _=>ne-(intOf i).toNat)
  case atStart=>exact⟨0,none,0,[],by omega,rfl,rfl,fE.nil _ _ _,dh.nil _ _,bN⟩
  case round=>
   obtain⟨k,Ax,cx,lr,hk,rfl,rfl,B,NE,M⟩:=hrel;have d:=ah (HK.later M);clear k0 k1;have k0:=d.c0;have k1:=d.c1
   by_cases NS:k<ne
   ·have D:k<es.length:=by rw[NV.o];exact NS
    obtain⟨b,o,rfl,N,hc⟩:=uP HR (by omega);obtain⟨c0,c1,c2,c3⟩:=hc k D;have c0:=(d.below.cell (p:=⟨b,o+k*4,none⟩) N).trans c0;have c1:=(d.below.cell (p:=⟨b,o+k*4+1,none⟩) N).trans c1;have c2:=(d.below.cell (p:=⟨b,o+k*4+2,none⟩) N).trans c2;have c3:=(d.below.cell (p:=⟨b,o+k*4+3,none⟩) N).trans c3;obtain⟨e,he⟩:∃ e,e=es[k]:=⟨_,rfl⟩
    have OZ:ai ((es.take (k+1)).map (fun e=>(p,e))=(es.take k).map (fun e=>(p,e))++[(p,e)]):=ah (by rw[dZ D,mD,he];rfl)
    rw[← he]at c0 c1 c2 c3
    have OE:RX wr (fun b=>(Value.slice Ax k cx).ownBlock≠some b∧ok b) 1 Ap np cp (strs p):=by
     refine (HP.keep d.below.size (fun b _ NS=>d.below.block b NS)).mono' HP (fun b Qg NS=>⟨fun e=>?_,Qg⟩);have h1:=(B.own.row.lt b e).1;have h2:=Pd.o
     have h3:W0.heap.size=w.heap.size+1:=by rw[h2];simp
     omega
    obtain⟨A6,c6,w6,r1,Oi,PI,Nw⟩:=fE.push (e:=e) (s:=⟨Ap,np,cp⟩) B M.size Ob (OE.mono fun b N _=>N.1) (by omega)
    have OA:ai (fE w6 W0.heap.size 109 A6 (k+1) c6 ((es.take (k+1)).map fun e=>(p,e)) (lr++[(⟨Ap,np,cp⟩,e)])):=ah (by rw[OZ.o];exact Oi)
    have OX:ai (dh w6 (fun b=>(Value.slice A6 (k+1) c6).ownBlock≠some b∧ok b) ((es.take (k+1)).map fun e=>(p,e)) (lr++[(⟨Ap,np,cp⟩,e)])):=ah (by rw[OZ.o];exact Nw ok _ _ (NE.app (dh.one Ob OE)))
    have OQ:=ah (M.trans PI);obtain⟨ea,en,es',ev⟩:=e;dsimp only at c0 c1 c2 c3 r1;have Pm:=ah r1;clear hc he OE Oi Nw PI r1;go_wp2_with (at_builtin;refine Lib.wpList_append_run _ rfl _ _ _ _ rfl _ _ rfl rfl _ _ Pm ?_);go_roundw
    case rel=>exact⟨k+1,A6,c6,_,by omega,by go_num,rfl,OA,OX,OQ⟩
    case measure=>simp[intOf];omega
   ·obtain rfl:k=ne:=by omega
    have Nz:es.take k=es:=eH (by rw[NV.o];omega);have NW:=B.o;have Oc:=NE.o;rw[Nz]at NW Oc;have Qe:=ah NW;have Qf:=ah Oc;clear Nz NW Oc B NE;go_wp2_with fail
    go_loopw [5,29] (fun s i wr=>∃ (j:Nat) (Ax:Option Addr) (m cx:Nat) (lr:List (SV×E)),j≤nk∧i = .int .i64 j∧s = .slice Ax m cx∧ai (fE wr W0.heap.size 109 Ax m cx (es.map (fun e=>(p,e))++j_ p ks j) lr)∧ai (dh wr (fun b=>(Value.slice Ax m cx).ownBlock≠some b∧ok b) (es.map (fun e=>(p,e))++j_ p ks j) lr)∧ai (av W0 wr)) (fun _ i _=>nk-(intOf i).toNat)
    case atStart=>exact⟨0,Ax,k,cx,lr,by omega,rfl,rfl,by unfold ai;simpa [j_] using Qe.o,by unfold ai;simpa [j_] using Qf.o,M⟩
    case round=>
     obtain⟨j,Ax,m,cx,lr,hj,rfl,rfl,B,NE,M⟩:=hrel;have d:=ah (HK.later M);clear k0 k1;have k0:=d.c0;have k1:=d.c1
     by_cases NS:j<nk
     ·have D:j<ks.length:=by rw[O_.o];exact NS
      obtain⟨b,o,rfl,N,hc⟩:=iI HR (by omega);obtain⟨⟨O5,OG,OB⟩,⟨O6,OH,OC⟩,c0,c1,c2,Ow⟩:=hc j D;dsimp only at c0 c1 c2;have c0:=(d.below.cell (p:=⟨b,o+j*3,none⟩) N).trans c0;have c1:=(d.below.cell (p:=⟨b,o+j*3+1,none⟩) N).trans c1;have c2:=(d.below.cell (p:=⟨b,o+j*3+2,none⟩) N).trans c2;obtain⟨l,Oe⟩:∃ l,l=(ks[j]).1:=⟨_,rfl⟩;rw[← Oe]at c0;have NK:=EG p D;rw[← Oe]at NK;have Ny:=ah NK;have O:b<wr.heap.size:=aL wr _ c0;have NR:g<wr.heap.size:=aL wr _ k0
      have hm5:m≤100000:=by
       have h1:=B.len;rw[bP,eO,NV.o]at h1;have h2:=JB p ks j;have h3:=Pb.o;omega
      have Oh:Rd wr wr.heap.size 1 Ap np cp (strs p):=(HP.rd.below d.below).more d.below.size
      -- the three orders
      have Od:av wr (wr.drew.alloc (.cells #[] 9)):=((Below.refl _ wr).drew).alloc (bG) _;have PK:av wr (wr.drew.alloc (.cells #[.string l] 9)):=((Below.refl _ wr).drew).alloc (bG) _;have NN:av wr ((wr.drew.alloc (.cells #[] 9)).alloc (.cells #[.string l] 9)):=Od.alloc (by have h:wr.drew.heap.size=wr.heap.size:=rfl;first | (simp;done) | (simp;omega) | (simp[h];done) | (simp[h];omega)) _;have NP:av wr ((wr.drew.alloc (.cells #[.string l] 9)).alloc (.cells #[] 9)):=PK.alloc (by have h:wr.drew.heap.size=wr.heap.size:=rfl;first | (simp;done) | (simp;omega) | (simp[h];done) | (simp[h];omega)) _;have r:wr.drew.heap.size=wr.heap.size:=rfl;obtain⟨A3A,c3A,NT,PV,Oy,Oj,PL⟩:=wD (wr.drew.alloc (.cells #[] 9)) wr.heap.size (wr.heap.size) (by have h:=heap_alloc_new wr.drew (.cells #[] 9);simpa [r] using h) (by omega) (by first | (simp[r];done) | (simp[r];omega)) ((Oh.below Od).more Od.size) (by omega)
      have F:av wr NT:=Od.trans Oj;have NM:av NT (NT.alloc (.cells #[.string l] 9)):=(bN).alloc (bG) _;obtain⟨OM,Pn,OI,PZ,O1,Oo⟩:=vV (NT.alloc (.cells #[.string l] 9)) wr.heap.size (aG Oy NM) (aN F.size NM.size) (rd_key _ NT.heap.size (NT.heap.size+1) (by omega) l (heap_alloc_new _ _)) (by omega);have N7:av wr OI:=F.trans ((NM.mono F.size).trans Oo);have Pe:=ah PV;have Ph:=ah PZ;have NY:=ah O1;have Q:=ah N7;have Pq:=(F.cell (p:=⟨b,o+j*3,none⟩) O).trans c0;have Pv:=(F.cell (p:=⟨g,1,none⟩) NR).trans k1;have Py:=(N7.cell (p:=⟨b,o+j*3,none⟩) O).trans c0;have P_:=(N7.cell (p:=⟨g,1,none⟩) NR).trans k1
      have O7:=ah (And.intro Pq Pv);have OT:=ah (And.intro Py P_);clear PV Oy Oj PL F PZ O1 Oo N7 Pq Pv Py P_ NM;obtain⟨A3B,c3B,Qc,PW,Oz,Ol,Ou⟩:=wD ((wr.drew.alloc (.cells #[] 9)).alloc (.cells #[.string l] 9)) wr.heap.size (wr.heap.size) (by have h:=(heap_alloc_old (wr.drew.alloc (.cells #[] 9)) (.cells #[.string l] 9) (show wr.heap.size<_ by simp[r])).trans (heap_alloc_new wr.drew (.cells #[] 9));simpa [r] using h) (by omega) (by first | (simp[r];done) | (simp[r];omega)) ((Oh.below NN).more NN.size) (by omega);have Z:av wr Qc:=NN.trans Ol;obtain⟨OO,Po,OJ,Qa,O3,Oq⟩:=vV Qc wr.heap.size Oz Z.size (rd_key _ (wr.heap.size+1) (wr.heap.size+1+1) (by omega) l ((Ou (wr.heap.size+1) (by simp[r];try omega) (by omega)).trans (by first | (have h:=heap_alloc_new (wr.drew.alloc (.cells #[] 9)) (.cells #[.string l] 9);simpa [r] using h) | (have h:=(heap_alloc_old (wr.drew.alloc (.cells #[.string l] 9)) (.cells #[] 9) (show wr.heap.size<_ by simp[r])).trans (heap_alloc_new wr.drew (.cells #[.string l] 9));simpa [r] using h)))) (by omega)
      have N8:av wr OJ:=Z.trans Oq;have Pf:=ah PW;have Pj:=ah Qa;have NZ:=ah O3;have R:=ah N8;have Ps:=(Z.cell (p:=⟨b,o+j*3,none⟩) O).trans c0;have Pw:=(Z.cell (p:=⟨g,1,none⟩) NR).trans k1;have Pz:=(N8.cell (p:=⟨b,o+j*3,none⟩) O).trans c0;have PE:=(N8.cell (p:=⟨g,1,none⟩) NR).trans k1;have O8:=ah (And.intro Ps Pw);have OU:=ah (And.intro Pz PE);clear PW Oz Ol Ou Z Qa O3 Oq N8 Ps Pw Pz PE;obtain⟨A3C,c3C,Qd,PX,O0,Om,Ov⟩:=wD ((wr.drew.alloc (.cells #[.string l] 9)).alloc (.cells #[] 9)) wr.heap.size (wr.heap.size+1) (by have h:=heap_alloc_new (wr.drew.alloc (.cells #[.string l] 9)) (.cells #[] 9);simpa [r] using h) (by omega) (by first | (simp[r];done) | (simp[r];omega)) ((Oh.below NP).more NP.size) (by omega)
      have Nv:av wr Qd:=NP.trans Om;obtain⟨OP,Pp,OL,Qb,O4,Ot⟩:=vV Qd wr.heap.size O0 Nv.size (rd_key _ (wr.heap.size) (wr.heap.size+1) (by omega) l ((Ov (wr.heap.size) (by simp[r];try omega) (by omega)).trans (by first | (have h:=heap_alloc_new (wr.drew.alloc (.cells #[] 9)) (.cells #[.string l] 9);simpa [r] using h) | (have h:=(heap_alloc_old (wr.drew.alloc (.cells #[.string l] 9)) (.cells #[] 9) (show wr.heap.size<_ by simp[r])).trans (heap_alloc_new wr.drew (.cells #[.string l] 9));simpa [r] using h)))) (by omega);have N9:av wr OL:=Nv.trans Ot;have Pg:=ah PX;have Pk:=ah Qb;have Oa:=ah O4;have U:=ah N9;have Pt:=(Nv.cell (p:=⟨b,o+j*3,none⟩) O).trans c0;have Px:=(Nv.cell (p:=⟨g,1,none⟩) NR).trans k1
      have P9:=(N9.cell (p:=⟨b,o+j*3,none⟩) O).trans c0;have PG:=(N9.cell (p:=⟨g,1,none⟩) NR).trans k1;have O9:=ah (And.intro Pt Px);have OV:=ah (And.intro P9 PG);clear PX O0 Om Ov Nv Qb O4 Ot N9 Pt Px P9 PG;have NU:=ah Ow;clear hc Oe NK Oh Ow Od PK NN NP;go_wp2_with fail;refine Rk (S:=fun W=>W.cell? ⟨b,o+j*3,none⟩=some (.string l)∧W.cell? ⟨g,1,none⟩=some (.slice (some ⟨b,o,none⟩) nk ck)) (fun hHeld=>?_);refine T4 1 33 3 35 4 36 5 37 ?_;refine T3 6 38 7 39 8 40 ?_;refine wpAnyH_ready (rs:=[0,9]) (by kernel_rfl) (by simp) ?_;refine AllReadyH.cons (o:=⟨some 32,_,_,_,_,_⟩) rfl (fun K C=>?_) (AllReadyH.cons (o:=⟨some 41,_,_,_,_,_⟩) rfl (fun K C=>?_) (AllReadyH.nil))
      ·go_simp
       refine Th C ?_ (fun a=>?_)
       ·(try dsimp only);go_keep
       clear C K hHeld;have hHeld:=a;clear a;refine wpAnyH_ready (rs:=[2,9]) (by kernel_rfl) (by simp) ?_;refine AllReadyH.cons (o:=⟨some 34,_,_,_,_,_⟩) rfl (fun K C=>?_) (AllReadyH.cons (o:=⟨some 41,_,_,_,_,_⟩) rfl (fun K C=>?_) (AllReadyH.nil))
       ·refine bg _ _ _ rfl rfl rfl Pe ?_
        clear hHeld;refine Th C ?_ (fun hHeld=>?_)
        ·exact O7.o
        clear C K;have d0:=O7.1;have d1:=O7.2;refine Tc 9 (fun K C=>?_);go_simp;refine Th C ?_ (fun a=>?_)
        ·(try dsimp only);go_keep
        clear C K hHeld;have hHeld:=a;clear a;refine Tc 10 (fun K C=>?_);refine bg _ _ _ rfl rfl rfl Ph ?_;clear hHeld;refine Th C ?_ (fun hHeld=>?_)
        ·exact OT.o
        clear C K;refine Tk 11 8 ?_;refine Td ?_;have e1:=OT.2;have e2:=(Q.cell (p:=⟨b,o+j*3+1,none⟩) O).trans c1;have e3:=(Q.cell (p:=⟨b,o+j*3+2,none⟩) O).trans c2;have Og:=Q.size
        have NI:RX OI (fun b=>(Value.slice Ax m cx).ownBlock≠some b∧ok b) 1 OM (np+1) Pn (strs (p++[l])):=by
         refine⟨NY.rd.len,NY.rd.cap,jD _,fun hn=>?_⟩;obtain⟨q,eq,q1,q2,_,q4⟩:=Sp.Own.place NY hn;refine⟨q,0,eq,⟨fun e=>?_,NQ q (by have:=d.below.size;omega)⟩,q2,fun j u hu=>by rw[Nat.zero_add];exact q4 j u hu⟩;have:=(B.own.row.lt q e).2;omega
        have x:=d.below.trans (Q.mono d.below.size);have y:=IH.o _ (bT D) O5 O6 OG OH OB OC (p++[l]) OM (np+1) Pn (fun b=>(Value.slice Ax m cx).ownBlock≠some b∧ok b) OI (by have h1:=HN.o;have h2:=pV (f:=fun k:ByteArray×T=>nodes k.2) (bT D);rw[bJ]at h1;omega) (aF.more x.size _ (aF.below NU x)) (by rw[bP,Ob.o];rfl) NI (fun b N=>⟨fun e=>by have:=(B.own.row.lt b e).2;omega,NQ b (by have:=d.below.size;omega)⟩);have X:=ah y;have NA:=ah (B.later Q);have NF:=ah (NE.later Q);have V:=ah (M.trans (Q.mono M.size));clear NI y x hHeld d0 d1;go_wp2_with fail;refine X.mono ?_;rintro e w5 ⟨A6,m6,c6,NJ,rfl,n,z,v⟩
        have G:=NA.later v;have J:=NF.later v;have L:W0.heap.size≤w5.heap.size:=aN V.size v.size
        have Ox:m6≤100000:=by
         have h1:=n.len;have h2:=dw (ks[j]).2;have h3:=dM (es:=es) (bT D);have h4:=HN.o;unfold pre at h1;rw[eO]at h1;omega
        obtain⟨A7,c7,w7,r7,H,NH,Nw⟩:=G.app Tryz.underlying106 Cn rfl (by omega) L n.own.rd n.len (z.mono fun b N _=>N.2.1) (by omega)
        have NC:ai (fE w7 W0.heap.size 109 A7 (m+m6) c7 (es.map (fun e=>(p,e))++j_ p ks (j+1)) (lr++NJ)):=ah (by rw[Ny.o,← og];exact H)
        have NG:ai (dh w7 (fun b=>(Value.slice A7 (m+m6) c7).ownBlock≠some b∧ok b) (es.map (fun e=>(p,e))++j_ p ks (j+1)) (lr++NJ)):=ah (by rw[Ny.o,← og];exact Nw ok _ _ (J.app (z.mono fun b N _=>N.2)))
        have N_:=ah ((V.trans (v.mono V.size)).trans NH);have Y:=ah r7;clear e1 e2 e3 Og n z v G J L r7 H NH Nw;go_wp2_with (at_builtin;refine Lib.wpList_append_run _ rfl _ _ _ _ rfl _ _ rfl rfl _ _ Y ?_);go_roundw
        case rel=>exact⟨j+1,A7,m+m6,c7,_,by omega,by go_num,rfl,NC,NG,N_⟩
        case measure=>simp[intOf];omega
       ·go_simp
        refine Th C ?_ (fun a=>?_)
        ·(try dsimp only);go_keep
        clear C K hHeld;have hHeld:=a;clear a;refine Tc 2 (fun K C=>?_);refine bg _ _ _ rfl rfl rfl Pf ?_;clear hHeld;refine Th C ?_ (fun hHeld=>?_)
        ·exact O8.o
        clear C K;have d0:=O8.1;have d1:=O8.2;refine Tc 10 (fun K C=>?_);refine bg _ _ _ rfl rfl rfl Pj ?_;clear hHeld;refine Th C ?_ (fun hHeld=>?_)
        ·exact OU.o
        clear C K;refine Tk 11 8 ?_;refine Td ?_;have e1:=OU.2;have e2:=(R.cell (p:=⟨b,o+j*3+1,none⟩) O).trans c1;have e3:=(R.cell (p:=⟨b,o+j*3+2,none⟩) O).trans c2;have Og:=R.size
        have NI:RX OJ (fun b=>(Value.slice Ax m cx).ownBlock≠some b∧ok b) 1 OO (np+1) Po (strs (p++[l])):=by
         refine⟨NZ.rd.len,NZ.rd.cap,jD _,fun hn=>?_⟩;obtain⟨q,eq,q1,q2,_,q4⟩:=Sp.Own.place NZ hn;refine⟨q,0,eq,⟨fun e=>?_,NQ q (by have:=d.below.size;omega)⟩,q2,fun j u hu=>by rw[Nat.zero_add];exact q4 j u hu⟩;have:=(B.own.row.lt q e).2;omega
        have x:=d.below.trans (R.mono d.below.size);have y:=IH.o _ (bT D) O5 O6 OG OH OB OC (p++[l]) OO (np+1) Po (fun b=>(Value.slice Ax m cx).ownBlock≠some b∧ok b) OJ (by have h1:=HN.o;have h2:=pV (f:=fun k:ByteArray×T=>nodes k.2) (bT D);rw[bJ]at h1;omega) (aF.more x.size _ (aF.below NU x)) (by rw[bP,Ob.o];rfl) NI (fun b N=>⟨fun e=>by have:=(B.own.row.lt b e).2;omega,NQ b (by have:=d.below.size;omega)⟩);have X:=ah y;have NA:=ah (B.later R);have NF:=ah (NE.later R);have V:=ah (M.trans (R.mono M.size));clear NI y x hHeld d0 d1;go_wp2_with fail;refine X.mono ?_;rintro e w5 ⟨A6,m6,c6,NJ,rfl,n,z,v⟩
        have G:=NA.later v;have J:=NF.later v;have L:W0.heap.size≤w5.heap.size:=aN V.size v.size
        have Ox:m6≤100000:=by
         have h1:=n.len;have h2:=dw (ks[j]).2;have h3:=dM (es:=es) (bT D);have h4:=HN.o;unfold pre at h1;rw[eO]at h1;omega
        obtain⟨A7,c7,w7,r7,H,NH,Nw⟩:=G.app Tryz.underlying106 Cn rfl (by omega) L n.own.rd n.len (z.mono fun b N _=>N.2.1) (by omega)
        have NC:ai (fE w7 W0.heap.size 109 A7 (m+m6) c7 (es.map (fun e=>(p,e))++j_ p ks (j+1)) (lr++NJ)):=ah (by rw[Ny.o,← og];exact H)
        have NG:ai (dh w7 (fun b=>(Value.slice A7 (m+m6) c7).ownBlock≠some b∧ok b) (es.map (fun e=>(p,e))++j_ p ks (j+1)) (lr++NJ)):=ah (by rw[Ny.o,← og];exact Nw ok _ _ (J.app (z.mono fun b N _=>N.2)))
        have N_:=ah ((V.trans (v.mono V.size)).trans NH);have Y:=ah r7;clear e1 e2 e3 Og n z v G J L r7 H NH Nw;go_wp2_with (at_builtin;refine Lib.wpList_append_run _ rfl _ _ _ _ rfl _ _ rfl rfl _ _ Y ?_);go_roundw
        case rel=>exact⟨j+1,A7,m+m6,c7,_,by omega,by go_num,rfl,NC,NG,N_⟩
        case measure=>simp[intOf];omega
      ·go_simp
       refine Th C ?_ (fun a=>?_)
       ·(try dsimp only);go_keep
       clear C K hHeld;have hHeld:=a;clear a;refine Tc 0 (fun K C=>?_);go_simp;refine Th C ?_ (fun a=>?_)
       ·(try dsimp only);go_keep
       clear C K hHeld;have hHeld:=a;clear a;refine Tc 2 (fun K C=>?_);refine bg _ _ _ rfl rfl rfl Pg ?_;clear hHeld;refine Th C ?_ (fun hHeld=>?_)
       ·exact O9.o
       clear C K;have d0:=O9.1;have d1:=O9.2;refine Tc 10 (fun K C=>?_);refine bg _ _ _ rfl rfl rfl Pk ?_;clear hHeld;refine Th C ?_ (fun hHeld=>?_)
       ·exact OV.o
       clear C K;refine Tk 11 8 ?_;refine Td ?_;have e1:=OV.2;have e2:=(U.cell (p:=⟨b,o+j*3+1,none⟩) O).trans c1;have e3:=(U.cell (p:=⟨b,o+j*3+2,none⟩) O).trans c2;have Og:=U.size
       have NI:RX OL (fun b=>(Value.slice Ax m cx).ownBlock≠some b∧ok b) 1 OP (np+1) Pp (strs (p++[l])):=by
        refine⟨Oa.rd.len,Oa.rd.cap,jD _,fun hn=>?_⟩;obtain⟨q,eq,q1,q2,_,q4⟩:=Sp.Own.place Oa hn;refine⟨q,0,eq,⟨fun e=>?_,NQ q (by have:=d.below.size;omega)⟩,q2,fun j u hu=>by rw[Nat.zero_add];exact q4 j u hu⟩;have:=(B.own.row.lt q e).2;omega
       have x:=d.below.trans (U.mono d.below.size);have y:=IH.o _ (bT D) O5 O6 OG OH OB OC (p++[l]) OP (np+1) Pp (fun b=>(Value.slice Ax m cx).ownBlock≠some b∧ok b) OL (by have h1:=HN.o;have h2:=pV (f:=fun k:ByteArray×T=>nodes k.2) (bT D);rw[bJ]at h1;omega) (aF.more x.size _ (aF.below NU x)) (by rw[bP,Ob.o];rfl) NI (fun b N=>⟨fun e=>by have:=(B.own.row.lt b e).2;omega,NQ b (by have:=d.below.size;omega)⟩);have X:=ah y;have NA:=ah (B.later U);have NF:=ah (NE.later U);have V:=ah (M.trans (U.mono M.size));clear NI y x hHeld d0 d1;go_wp2_with fail;refine X.mono ?_;rintro e w5 ⟨A6,m6,c6,NJ,rfl,n,z,v⟩
       have G:=NA.later v;have J:=NF.later v;have L:W0.heap.size≤w5.heap.size:=aN V.size v.size
       have Ox:m6≤100000:=by
        have h1:=n.len;have h2:=dw (ks[j]).2;have h3:=dM (es:=es) (bT D);have h4:=HN.o;unfold pre at h1;rw[eO]at h1;omega
       obtain⟨A7,c7,w7,r7,H,NH,Nw⟩:=G.app Tryz.underlying106 Cn rfl (by omega) L n.own.rd n.len (z.mono fun b N _=>N.2.1) (by omega)
       have NC:ai (fE w7 W0.heap.size 109 A7 (m+m6) c7 (es.map (fun e=>(p,e))++j_ p ks (j+1)) (lr++NJ)):=ah (by rw[Ny.o,← og];exact H)
       have NG:ai (dh w7 (fun b=>(Value.slice A7 (m+m6) c7).ownBlock≠some b∧ok b) (es.map (fun e=>(p,e))++j_ p ks (j+1)) (lr++NJ)):=ah (by rw[Ny.o,← og];exact Nw ok _ _ (J.app (z.mono fun b N _=>N.2)))
       have N_:=ah ((V.trans (v.mono V.size)).trans NH);have Y:=ah r7;clear e1 e2 e3 Og n z v G J L r7 H NH Nw;go_wp2_with (at_builtin;refine Lib.wpList_append_run _ rfl _ _ _ _ rfl _ _ rfl rfl _ _ Y ?_);go_roundw
       case rel=>exact⟨j+1,A7,m+m6,c7,_,by omega,by go_num,rfl,NC,NG,N_⟩
       case measure=>simp[intOf];omega
     ·obtain rfl:j=nk:=by omega
      have Nz:=zK p ks O_
      have OW:ai (fE wr W0.heap.size 109 Ax m cx (pre p (leaves (.mk es ks))) lr):=ah (by rw[xJ,← Nz];exact B.o)
      have OY:ai (dh wr (fun b=>(Value.slice Ax m cx).ownBlock≠some b∧ok b) (pre p (leaves (.mk es ks))) lr):=ah (by rw[xJ,← Nz];exact NE.o)
      clear Nz;go_wp2_with fail;go_ret;exact⟨Ax,m,cx,lr,rfl,OW.mono HK.below.size,OY,d.below⟩
theorem pre_nil (l:List Lf):pre [] l=l:=by unfold pre;simp
theorem xu (t:T) (Ae Ak:Option Addr) (ne nk ce ck:Nat) (w:World) (hn:nodes t≤100000) (j:aF w w.heap.size t ⟨Ae,ne,ce⟩ ⟨Ak,nk,ck⟩) :
  Calls Tryz.prog 69 #[.agg #[.slice Ae ne ce,.slice Ak nk ck]] w fun e w'=>∃ A c,e = .returned (.slice A (leaves t).length c)∧mh w' w'.heap.size A (leaves t).length c (leaves t)∧av w w':=by
 have a:av w (w.alloc (.cells #[.slice Ae ne ce,.slice Ak nk ck] 35)):=Dt.ay _ _ _;have k:=ah (GI t Ae Ak ne nk ce ck [] none 0 0 (fun _=>True) _ (by omega) (aF.more a.size _ (aF.below j a)) rfl ⟨rfl,bG,by simp[strs],fun h=>absurd h (by omega)⟩ (fun _ _=>trivial));have g:=ah a;clear j a;go_enter Tryz.func69,Tryz.ntmps69;go_wp2_with fail;refine k.mono ?_;rintro e w2 ⟨A,m,c,lr,rfl,i,_,d⟩;have f:=ah (g.trans (d.mono g.size));have b:=i.rd;rw[pre_nil]at b;obtain rfl:(leaves t).length=m:=b.1;have l:=ah b;clear d i b;go_wp2_with fail;go_ret;exact⟨A,c,rfl,l,f⟩
end Tr
end Go.Proofs.YtgeafpaognhokaaGreat
