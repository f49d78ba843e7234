/- Trees: what hangs below keys: the document's. -/
import Derived.Test.YtgeafpaognhokaaGreatG00
import Derived.Test.YtgeafpaognhokaaGreatTreeBuild
namespace Go.Proofs.YtgeafpaognhokaaGreat
open ChangeShapes WideShapes ChangeAt RowKit
namespace Tr
open Sp Rw
theorem uK (t:T):∀ p:List ByteArray,nodes (aI t p)≤nodes t
 | []=>bG
 | k::p=>by
  unfold aI;refine aN (uK _ p) ?_
  cases t with
  | mk es ks=>
   show nodes (aR ks k)≤_
   rcases jQ (ks:=ks) (key:=k)with ⟨x,a,_,b⟩ | ⟨_,h2⟩
   ·rw[b];exact dM a
   ·rw[h2];unfold none_;rw[bJ];simp
theorem uS {d:Nat} : ∀ {t:T},au (d+1) t→∀ p:List ByteArray,au (d+1) (aI t p)
 | _,h,[]=>h
 | _,h,k::p=>uS (h.yH k) p
theorem sD (t:T):∀ (p:List ByteArray) (k:ByteArray),aI t (p++[k])=aR (aI t p).ks k
 | [],_=>rfl
 | x::p,k=>sD (aR t.ks x) p k
set_option maxRecDepth 100000 in
set_option maxHeartbeats 4000000 in
theorem jU (d:Nat) (t:T) (Ae Ak:Option Addr) (ne nk ce ck:Nat) (w:World) (l:List ByteArray) (A:Option Addr) (n c:Nat) (NE:l.length=n) (hn9:n≤100000) (NI:Rd w w.heap.size 1 A n c (strs l)) (ht:au (d+1) t) (hn:nodes t≤100000) (hr:aF w w.heap.size t ⟨Ae,ne,ce⟩ ⟨Ak,nk,ck⟩) :
  Calls Tryz.prog 61 #[.agg #[.slice Ae ne ce,.slice Ak nk ck],.slice A n c] w (fun e w'=>∃ Ae ne ce Ak nk ck,e = .returned (.agg #[.slice Ae ne ce,.slice Ak nk ck])∧aX w' (fun b=>w.heap.size≤b) (aI t l) ⟨Ae,ne,ce⟩ ⟨Ak,nk,ck⟩∧av w w'):=by
 have N8:=ah NE;have NV:=ah NI;have HT:=ah ht;have HN:=ah hn;have HR:=ah hr;clear NE NI ht hn hr;obtain⟨g,hg⟩:∃ g,g=w.heap.size:=⟨_,rfl⟩;have L:=ah (bQ w Ae Ak ne nk ce ck);rw[← hg]at L;obtain⟨W0,O⟩:∃ W,W=w.alloc (.cells #[.slice Ae ne ce,.slice Ak nk ck] 35):=⟨_,rfl⟩;rw[← O]at L;have HG:=ah hg;have N:=ah O;have k0:=L.c0;have k1:=L.c1;clear hg O;obtain⟨q,W1,hq,Q,R,q0,q1⟩:=A_ W0 (.slice none 0 0) (.slice none 0 0) 35;have NQ:=p_ hq Q;have HFG:ai (aA g W1):=(show aA g W0 from⟨aL W0 _ L.c0,fun j=>by rw[N.o,HG.o];go_simp⟩).later R;have D:=ah (((L.later R).af q1).af q0)
 have HQ:ai (q=g+1):=ah (by rw[hq,N.o,HG.o];simp)
 have hgW:g<W0.heap.size:=aL W0 _ L.c0
 have hgq:g≠q:=by omega
 have hgq2:¬q=g:=by omega
 have hwg:w.heap.size≤g:=by have:=HG.o;omega
 have NM:w.heap.size≤q:=by omega
 have NZ:=ah Q;have HBq:ai (av w W1):=D.below;clear hq Q R q0 q1 k0 k1;go_enter Tryz.func61,Tryz.ntmps61;go_wp2_with fail;rw[← HG.o,← N.o,← HQ.o,← NZ.o];refine (x9 t Ae Ak ne nk ce ck W1 (by have:=HN.o;omega) (aF.more D.below.size _ (aF.below HR D.below))).mono ?_;rintro e w2 ⟨A2,c2,rfl,X,S⟩;obtain⟨m2,Z⟩:∃ z,z=(leaves t).length:=⟨_,rfl⟩;rw[← Z]at X ⊢;have NT:=ah X;have NR:=ah (D.later S);have Nz:=ah (NQ.later S)
 have NG:m2≤100000:=by rw[Z];exact aN (dw t) HN
 clear X S Z;go_wp2_with fail
 go_loopw [5,11] (fun s i wr=>∃ (k:Nat) (Ax:Option Addr) (m cx:Nat),k≤n∧i = .int .i64 k∧s = .slice Ax m cx∧m≤100000∧ai (mh wr wr.heap.size Ax m cx (leaves (aI t (l.take k))))∧ai (Kept [(⟨q,0,none⟩,.slice none 0 0),(⟨q,1,none⟩,.slice none 0 0),(⟨g,0,none⟩,.slice Ae ne ce),(⟨g,1,none⟩,.slice Ak nk ck)] w wr)∧ai (aA q wr)) (fun _ i _=>n-(intOf i).toNat)
 case atStart=>exact⟨0,A2,m2,c2,by omega,rfl,rfl,NG,NT,NR,Nz⟩
 case round=>
  obtain⟨k,Ax,m,cx,hk,rfl,rfl,Oc,N9,F,C⟩:=hrel
  by_cases NF:k<n
  ·have NA:k<l.length:=by rw[N8.o];exact NF
   obtain⟨b,o,rfl,J,hc⟩:=NV.at_ (by omega);obtain⟨x,hx⟩:∃ x,x=l[k]:=⟨_,rfl⟩;have Ob:=(F.below.cell (p:=⟨b,o+k,none⟩) J).trans (hc k (.string x) (by rw[hx];simp[strs,NA]));have hu:=uS HT (l.take k);have G:=Aj (leaves (aI t (l.take k))) m Ax cx x wr Oc N9
   have NK:under (leaves (aI t (l.take k))) x=leaves (aI t (l.take (k+1))):=by
    rw[oQ hu x,dZ NA,sD,hx]
   rw[NK]at G;obtain⟨m3,Ny⟩:∃ z,z=(leaves (aI t (l.take (k+1)))).length:=⟨_,rfl⟩;rw[← Ny]at G
   have NH:m3≤100000:=by rw[Ny];exact aN (dw _) (aN (uK t _) HN)
   have NY:=ah G;clear hc hx hu G NK Ny;go_wp2_with fail;refine NY.mono ?_;rintro e w3 ⟨A3,c3,rfl,NC,U⟩;have NU:=ah NC;have NS:=ah (F.later U);have N7:=ah (C.later U);clear NC U Ob;go_wp2_with fail;go_roundw
   case rel=>exact⟨k+1,A3,m3,c3,by omega,by go_num,rfl,NH,NU,NS,N7⟩
   case measure=>simp[intOf];omega
  ·obtain rfl:n=k:=by omega
   have Y:=N9.o;rw[eO (by rw[N8.o];omega)]at Y;have NP:=ah (GQ (d+1) (aI t l) (uS HT l) Ax m cx wr (aN (uK t l) HN) Y);clear Y;go_wp2_with fail;refine NP.mono ?_;rintro e w5 ⟨a,y,h,f,B,r,rfl,NJ,V⟩;have M:=ah (F.later V);have H:=ah (C.later V);have N_:ai (aX w5 (fun b=>w.heap.size≤b∧b≠q) (aI t l) ⟨a,y,h⟩ ⟨f,B,r⟩):=aX.mono (fun b J _=>⟨aN F.below.size J,fun e=>by have:=C.1;omega⟩) _ NJ;have k0:=M.c0;have k1:=M.c1;have m0:=H.2 0;have m1:=H.2 1;clear NJ V;obtain⟨w9,u⟩:∃ W,W=(w5.setCell ⟨q,0,none⟩ (.slice a y h)).setCell ⟨q,1,none⟩ (.slice f B r):=⟨_,rfl⟩
   have NW:ai (aX w9 (fun b=>w.heap.size≤b) (aI t l) ⟨a,y,h⟩ ⟨f,B,r⟩):=by
    unfold ai;rw[u];refine aX.mono (fun b J _=>J.1) _ (aX.keep (ok:=fun b=>w.heap.size≤b∧b≠q) (by simp[World.setCell]) (fun b J NF=>?_) _ N_);exact (cZ _ ⟨q,1,none⟩ _ b (fun e=>J.2 e)).trans (cZ _ ⟨q,0,none⟩ _ b (fun e=>J.2 e))
   have NN:ai (av w w9):=ah (by rw[u];exact (M.below.setCell (p:=⟨q,0,none⟩) NM _).setCell (p:=⟨q,1,none⟩) NM _)
   have j0:w9.cell? ⟨q,0,none⟩=some (.slice a y h):=by rw[u];go_simp
   have j1:w9.cell? ⟨q,1,none⟩=some (.slice f B r):=by rw[u];go_simp
   have Oa:=ah u;clear u;go_wp2_with fail;rw[← Oa.o];refine bodyPost_ret (v:=.agg #[.slice a y h,.slice f B r]) (by simp[results,Tryz.results61,go_sem,j0,j1]) rfl ⟨a,y,h,f,B,r,rfl,NW,NN⟩
end Tr
end Go.Proofs.YtgeafpaognhokaaGreat
