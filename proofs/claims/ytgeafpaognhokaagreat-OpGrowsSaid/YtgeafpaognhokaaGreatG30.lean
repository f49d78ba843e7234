/- Trees: what hangs below keys: the document's. -/
import Derived.Test.YtgeafpaognhokaaGreatG00
import Derived.Test.YtgeafpaognhokaaGreatTreeBuild
namespace Go.Proofs.YtgeafpaognhokaaGreat
open ChangeShapes WideShapes ChangeAt RowKit
namespace Tr
open Sp Rw
theorem uI (t:T):∀ p:List ByteArray,nodes (aI t p)≤nodes t
 | []=>bG
 | k::p=>by
  unfold aI;refine aN (uI _ p) ?_
  cases t with
  | mk es ks=>
   show nodes (aR ks k)≤_
   rcases jQ (ks:=ks) (key:=k)with ⟨x,a,_,b⟩ | ⟨_,h2⟩
   ·rw[b];exact dM a
   ·rw[h2];unfold none_;rw[bJ];simp
theorem uQ {d:Nat} : ∀ {t:T},au (d+1) t→∀ p:List ByteArray,au (d+1) (aI t p)
 | _,h,[]=>h
 | _,h,k::p=>uQ (h.yF k) p
theorem su (t:T):∀ (p:List ByteArray) (k:ByteArray),aI t (p++[k])=aR (aI t p).ks k
 | [],_=>rfl
 | x::p,k=>su (aR t.ks x) p k
set_option maxRecDepth 100000 in
set_option maxHeartbeats 4000000 in
theorem jU (d:Nat) (t:T) (Ae Ak:Option Addr) (ne nk ce ck:Nat) (w:World) (l:List ByteArray) (A:Option Addr) (n c:Nat) (NA:l.length=n) (hn9:n≤100000) (NG:Rd w w.heap.size 1 A n c (strs l)) (ht:au (d+1) t) (hn:nodes t≤100000) (hr:aF w w.heap.size t ⟨Ae,ne,ce⟩ ⟨Ak,nk,ck⟩) :
  Calls Tryz.prog 61 #[.agg #[.slice Ae ne ce,.slice Ak nk ck],.slice A n c] w (fun e w'=>∃ Ae ne ce Ak nk ck,e = .returned (.agg #[.slice Ae ne ce,.slice Ak nk ck])∧aW w' (fun b=>w.heap.size≤b) (aI t l) ⟨Ae,ne,ce⟩ ⟨Ak,nk,ck⟩∧av w w'):=by
 have Nz:=ah NA;have NT:=ah NG;have HT:=ah ht;have HN:=ah hn;have HR:=ah hr;clear NA NG ht hn hr;obtain⟨g,hg⟩:∃ g,g=w.heap.size:=⟨_,rfl⟩;have L:=ah (bQ w Ae Ak ne nk ce ck);rw[← hg]at L;obtain⟨W0,O⟩:∃ W,W=w.alloc (.cells #[.slice Ae ne ce,.slice Ak nk ck] 35):=⟨_,rfl⟩;rw[← O]at L;have HG:=ah hg;have N:=ah O;have k0:=L.c0;have k1:=L.c1;clear hg O;obtain⟨q,W1,hq,Q,R,q0,q1⟩:=Az W0 (.slice none 0 0) (.slice none 0 0) 35;have NN:=pu hq Q;have HFG:ai (aA g W1):=(show aA g W0 from⟨aL W0 _ L.c0,fun j=>by rw[N.o,HG.o];go_simp⟩).later R;have D:=ah (((L.later R).af q1).af q0)
 have HQ:ai (q=g+1):=ah (by rw[hq,N.o,HG.o];simp)
 have hgW:g<W0.heap.size:=aL W0 _ L.c0
 have hgq:g≠q:=by omega
 have hgq2:¬q=g:=by omega
 have hwg:w.heap.size≤g:=by have:=HG.o;omega
 have NJ:w.heap.size≤q:=by omega
 have NW:=ah Q;have HBq:ai (av w W1):=D.below;clear hq Q R q0 q1 k0 k1;go_enter Tryz.func61,Tryz.ntmps61;go_wp2_with fail;rw[← HG.o,← N.o,← HQ.o,← NW.o];refine (xu t Ae Ak ne nk ce ck W1 (by have:=HN.o;omega) (aF.more D.below.size _ (aF.below HR D.below))).mono ?_;rintro e w2 ⟨A2,c2,rfl,X,S⟩;obtain⟨m2,Z⟩:∃ z,z=(leaves t).length:=⟨_,rfl⟩;rw[← Z]at X ⊢;have NR:=ah X;have NP:=ah (D.later S);have Nw:=ah (NN.later S)
 have NE:m2≤100000:=by rw[Z];exact aN (dw t) HN
 clear X S Z;go_wp2_with fail
 go_loopw [5,11] (fun s i wr=>∃ (k:Nat) (Ax:Option Addr) (m cx:Nat),k≤n∧i = .int .i64 k∧s = .slice Ax m cx∧m≤100000∧ai (mh wr wr.heap.size Ax m cx (leaves (aI t (l.take k))))∧ai (Kept [(⟨q,0,none⟩,.slice none 0 0),(⟨q,1,none⟩,.slice none 0 0),(⟨g,0,none⟩,.slice Ae ne ce),(⟨g,1,none⟩,.slice Ak nk ck)] w wr)∧ai (aA q wr)) (fun _ i _=>n-(intOf i).toNat)
 case atStart=>exact⟨0,A2,m2,c2,by omega,rfl,rfl,NE,NR,NP,Nw⟩
 case round=>
  obtain⟨k,Ax,m,cx,hk,rfl,rfl,Oa,N7,F,C⟩:=hrel
  by_cases NC:k<n
  ·have N9:k<l.length:=by rw[Nz.o];exact NC
   obtain⟨b,o,rfl,J,hc⟩:=NT.at_ (by omega);obtain⟨x,hx⟩:∃ x,x=l[k]:=⟨_,rfl⟩;have NZ:=(F.below.cell (p:=⟨b,o+k,none⟩) J).trans (hc k (.string x) (by rw[hx];simp[strs,N9]));have hu:=uQ HT (l.take k);have G:=Ah (leaves (aI t (l.take k))) m Ax cx x wr Oa N7
   have NI:under (leaves (aI t (l.take k))) x=leaves (aI t (l.take (k+1))):=by
    rw[oP hu x,dZ N9,su,hx]
   rw[NI]at G;obtain⟨m3,Nv⟩:∃ z,z=(leaves (aI t (l.take (k+1)))).length:=⟨_,rfl⟩;rw[← Nv]at G
   have NF:m3≤100000:=by rw[Nv];exact aN (dw _) (aN (uI t _) HN)
   have NV:=ah G;clear hc hx hu G NI Nv;go_wp2_with fail;refine NV.mono ?_;rintro e w3 ⟨A3,c3,rfl,N_,U⟩;have NS:=ah N_;have NQ:=ah (F.later U);have Ny:=ah (C.later U);clear N_ U NZ;go_wp2_with fail;go_roundw
   case rel=>exact⟨k+1,A3,m3,c3,by omega,by go_num,rfl,NF,NS,NQ,Ny⟩
   case measure=>simp[intOf];omega
  ·obtain rfl:n=k:=by omega
   have Y:=N7.o;rw[eH (by rw[Nz.o];omega)]at Y;have NM:=ah (GL (d+1) (aI t l) (uQ HT l) Ax m cx wr (aN (uI t l) HN) Y);clear Y;go_wp2_with fail;refine NM.mono ?_;rintro e w5 ⟨a,y,h,f,B,r,rfl,NH,V⟩;have M:=ah (F.later V);have H:=ah (C.later V);have N8:ai (aW w5 (fun b=>w.heap.size≤b∧b≠q) (aI t l) ⟨a,y,h⟩ ⟨f,B,r⟩):=aW.mono (fun b J _=>⟨aN F.below.size J,fun e=>by have:=C.1;omega⟩) _ NH;have k0:=M.c0;have k1:=M.c1;have m0:=H.2 0;have m1:=H.2 1;clear NH V;obtain⟨w9,u⟩:∃ W,W=(w5.setCell ⟨q,0,none⟩ (.slice a y h)).setCell ⟨q,1,none⟩ (.slice f B r):=⟨_,rfl⟩
   have NU:ai (aW w9 (fun b=>w.heap.size≤b) (aI t l) ⟨a,y,h⟩ ⟨f,B,r⟩):=by
    unfold ai;rw[u];refine aW.mono (fun b J _=>J.1) _ (aW.keep (ok:=fun b=>w.heap.size≤b∧b≠q) (by simp[World.setCell]) (fun b J NC=>?_) _ N8);exact (cZ _ ⟨q,1,none⟩ _ b (fun e=>J.2 e)).trans (cZ _ ⟨q,0,none⟩ _ b (fun e=>J.2 e))
   have NK:ai (av w w9):=ah (by rw[u];exact (M.below.setCell (p:=⟨q,0,none⟩) NJ _).setCell (p:=⟨q,1,none⟩) NJ _)
   have j0:w9.cell? ⟨q,0,none⟩=some (.slice a y h):=by rw[u];go_simp
   have j1:w9.cell? ⟨q,1,none⟩=some (.slice f B r):=by rw[u];go_simp
   have NY:=ah u;clear u;go_wp2_with fail;rw[← NY.o];refine bodyPost_ret (v:=.agg #[.slice a y h,.slice f B r]) (by simp[results,Tryz.results61,go_sem,j0,j1]) rfl ⟨a,y,h,f,B,r,rfl,NU,NK⟩
end Tr
end Go.Proofs.YtgeafpaognhokaaGreat
