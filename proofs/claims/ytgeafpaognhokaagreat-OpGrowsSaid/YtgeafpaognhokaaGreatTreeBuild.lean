/- Trees: built of leaves: the document's. -/
import Derived.Test.YtgeafpaognhokaaGreatG00
import Derived.Test.YtgeafpaognhokaaGreatG20
namespace Go.Proofs.YtgeafpaognhokaaGreat
open ChangeShapes WideShapes ChangeAt RowKit
namespace Tr
open Sp Rw
theorem Il {b a:List Lf} (c:∀ x,x∈b↔x∈a) (x:E):x∈fP b↔x∈fP a:=by
 unfold fP;simp only[List.mem_filterMap,c]
theorem zF {b a:List Lf} (c:∀ x,x∈b↔x∈a) (x:ByteArray):x∈iC b↔x∈iC a:=by
 unfold iC;simp only[List.mem_filterMap,c]
theorem I7 {b a:List Lf} (c:∀ x,x∈b↔x∈a) (y:ByteArray) (x:Lf):x∈under b y↔x∈under a y:=by
 unfold under;simp only[List.mem_filterMap,c]
theorem GJ {d:Nat} {es:List E} {ks:List (ByteArray×T)} {a:List Lf} (b:∀ x,x∈a↔x∈leaves (.mk es ks)) (h:au (d+1) (.mk es ks)) {i:Nat} (hi:i≤es.length) {r:Option E} (c:bq mX (fP a) (p8 mX es i) r):r=es[i]?:=
 xq sN (fun _ _ _=>Bb) (fun x=>by rw[Il b,tC]) h.2.1 hi c
theorem GK {d:Nat} {es:List E} {ks:List (ByteArray×T)} {a:List Lf} (c:∀ x,x∈a↔x∈leaves (.mk es ks)) (h:au (d+1) (.mk es ks)) {j:Nat} (b:j≤ks.length) {r:Option ByteArray} (e:bq cK (iC a) (p8 cK (ks.map fun x=>x.1) j) r):r=(ks.map fun x=>x.1)[j]?:=
 xq aQ.irr (fun _ _ _=>aQ.tr _ _ _) (fun x=>by rw[zF c,sD h]) (List.pairwise_map.2 h.2.2.1) (by rw[eO];exact b) e
set_option maxRecDepth 100000 in
set_option maxHeartbeats 4000000 in
theorem BR:∀ (d:Nat) (t:T),au d t→∀ (ls:List Lf),(∀ x,x∈ls↔x∈leaves t)→∀ (A:Option Addr) (n c:Nat) (w:World),n≤100000→nodes t≤100000→mh w w.heap.size A n c ls →
  Calls Tryz.prog 112 #[.slice A n c] w fun e w'=>∃ Ae ne ce Ak nk ck,e = .returned (.agg #[.slice Ae ne ce,.slice Ak nk ck])∧aW w' (fun b=>w.heap.size≤b) t ⟨Ae,ne,ce⟩ ⟨Ak,nk,ck⟩∧av w w':=by
 intro d
 induction d with
 | zero=>intro t ht;exact ht.elim
 | succ d ih=>
  intro t ht ls hm A n c w Qg hn hl;obtain⟨es,ks⟩:=t;have HT:=ah ht;have HN:=ah hn;have PL:=ah ih;have HL:=ah hl;have OL:=ah hl.1;have HM:=ah hm;obtain⟨ne,Qh⟩:∃ z,z=es.length:=⟨_,rfl⟩;obtain⟨nk,Qi⟩:∃ z,z=ks.length:=⟨_,rfl⟩;have O3:=ah Qh;have OJ:=ah Qi
  have hne5:ne≤100000:=by have:=bE es ks;omega
  have hnk5:nk≤100000:=by have:=bE es ks;omega
  clear ht hn ih hl Qh Qi hm;obtain⟨q,hq⟩:∃ q,q=w.heap.size:=⟨_,rfl⟩;obtain⟨W1,O5⟩:∃ W,W=w.alloc (.cells #[.slice none 0 0,.slice none 0 0] 35):=⟨_,rfl⟩;obtain⟨r,hr⟩:∃ r,r=W1.heap.size:=⟨_,rfl⟩;obtain⟨W2,O6⟩:∃ W,W=W1.alloc (.cells #[.slice none 0 0,.slice none 0 0] 35):=⟨_,rfl⟩
  have OO:av w W1:=by rw[O5];exact Dt.ay _ _ _
  have Ov:av W1 W2:=by rw[O6];exact Dt.ay _ _ _
  have Q5:W1.heap.size=q+1:=by rw[O5,hq];simp
  have Q6:W2.heap.size=r+1:=by rw[O6,hr];simp
  have f0:W1.cell? ⟨q,0,none⟩=some (.slice none 0 0):=by rw[O5,hq];go_simp
  have f1:W1.cell? ⟨q,1,none⟩=some (.slice none 0 0):=by rw[O5,hq];go_simp
  have q0:=(Ov.cell (p:=⟨q,0,none⟩) (by show q<_;omega)).trans f0;have q1:=(Ov.cell (p:=⟨q,1,none⟩) (by show q<_;omega)).trans f1
  have r0:W2.cell? ⟨r,0,none⟩=some (.slice none 0 0):=by rw[O6,hr];go_simp
  have r1:W2.cell? ⟨r,1,none⟩=some (.slice none 0 0):=by rw[O6,hr];go_simp
  have PI:ai (aA q W2):=(show aA q W1 from⟨by omega,fun j=>by rw[O5,hq];go_simp⟩).later Ov;have PK:ai (aA r W2):=⟨by omega,fun j=>by rw[O6,hr];go_simp⟩;have HY:=ah (And.intro r0 (And.intro r1 (And.intro q0 q1)));have Qo:=ah (OO.trans (Ov.mono OO.size))
  have NE:ai (r=q+1):=FJ
  have PW:ai (r+1≤W2.heap.size):=FJ
  have HQ:=ah hq;have Qv:=ah O5;have Qw:=ah O6
  have OE:q≠r:=by omega
  have hqr2:¬r=q:=by omega
  have Qn:w.heap.size≤q:=by omega
  have Pe:w.heap.size≤r:=by omega
  clear hq O5 hr O6 OO Ov Q5 Q6 f0 f1 q0 q1 r0 r1;go_enter Tryz.func112,Tryz.ntmps112;go_wp2_with fail;rw[← HQ.o,← Qv.o,← NE.o,← Qw.o]
  go_loopw [] (fun wr=>∃ (i:Nat) (A3:Option Addr) (k3:Nat),i≤ne∧ai (Own wr (r+1) 97 4 A3 i k3 (bV (es.take i)))∧ai (wr.cell? ⟨r,0,none⟩=some (.slice A3 i k3)∧wr.cell? ⟨r,1,none⟩=some (.slice none 0 0)∧wr.cell? ⟨q,0,none⟩=some (.slice none 0 0)∧wr.cell? ⟨q,1,none⟩=some (.slice none 0 0))∧ai (aA r wr)∧ai (aA q wr)∧ai (r+1≤wr.heap.size)∧ai (av w wr)) (fun wr=>ne+1-dS (wr.cell? ⟨r,0,none⟩))
  case atStart=>exact⟨0,none,0,by omega,⟨iw _ _ _ _,by simp[bV]⟩,HY,PK,PI,PW,Qo⟩
  case round=>
   obtain⟨i,A3,k3,hi,HO,R,Nv,Nw,NI,HB⟩:=hrel;obtain⟨wo,Q8⟩:∃ W,W=wr:=⟨_,rfl⟩;subst Q8;obtain⟨p,Wp,hp,OZ,Pt,-,-,-,-⟩:=zf wo (.int .i64 0) (.int .i64 0) (.string ⟨#[]⟩) (.int .i64 0) 97
   have Qr:ai (Wp.cell? ⟨p,0,none⟩=some (.int .i64 (gZ none).a)∧Wp.cell? ⟨p,1,none⟩=some (.int .i64 (gZ none).n)∧Wp.cell? ⟨p,2,none⟩=some (.string (gZ none).s)∧Wp.cell? ⟨p,3,none⟩=some (.int .i64 (gZ none).v)):=by
    unfold ai;rw[OZ,hp];exact⟨by go_simp;rfl,by go_simp;rfl,by go_simp;rfl,by go_simp;rfl⟩
   have F:=pu hp OZ
   have hrp:r<p:=by have:=Nv.1;omega
   have hqp:q<p:=by have:=Nw.1;omega
   have hrp2:¬r=p:=by omega
   have hpr2:¬p=r:=by omega
   have PG:=ah Pt;have Ot:=ah hp;have Qa:=ah OZ;clear hp OZ Pt;go_wp2_with fail;rw[← Ot.o,← Qa.o]
   go_loopw [5,13] (fun s z wr=>∃ (k:Nat) (x:Option E),k≤n∧z = .int .i64 k∧s = .bool x.isSome∧ai (bq mX (fP (ls.take k)) (p8 mX es i) x)∧ai (wr.cell? ⟨p,0,none⟩=some (.int .i64 (gZ x).a)∧wr.cell? ⟨p,1,none⟩=some (.int .i64 (gZ x).n)∧wr.cell? ⟨p,2,none⟩=some (.string (gZ x).s)∧wr.cell? ⟨p,3,none⟩=some (.int .i64 (gZ x).v))∧ai (aA p wr)∧ai (av wo wr)) (fun _ z _=>n-(intOf z).toNat)
   case atStart=>exact⟨0,none,by omega,rfl,rfl,by unfold ai;intro y hy;simp[fP]at hy,Qr,F,PG⟩
   case round=>
    obtain⟨k,x,hk,rfl,rfl,N9,H,F,M⟩:=hrel;have OX:=ah ((M.cell (p:=⟨r,0,none⟩) Nv.1).trans R.1)
    by_cases O:k<n
    ·have OT:k<ls.length:=by rw[OL.o];exact O
     obtain⟨b,o,rfl,Y,hc⟩:=mh.at_ HL (by omega);obtain⟨⟨Ap,np,cp⟩,c0,c1,c2,c3,c4,NF,_⟩:=hc k OT;dsimp only at c0 NF;have OB:=HB.trans (M.mono HB.size);have c0:=(OB.cell (p:=⟨b,o+k*5,none⟩) Y).trans c0;have c1:=(OB.cell (p:=⟨b,o+k*5+1,none⟩) Y).trans c1;have c2:=(OB.cell (p:=⟨b,o+k*5+2,none⟩) Y).trans c2;have c3:=(OB.cell (p:=⟨b,o+k*5+3,none⟩) Y).trans c3;have c4:=(OB.cell (p:=⟨b,o+k*5+4,none⟩) Y).trans c4;have NC:=Fs OT;obtain⟨lf,OV⟩:∃ z,z=ls[k]:=⟨_,rfl⟩;rw[← OV]at c1 c2 c3 c4 NF NC;obtain⟨pa,U,V,et,ev⟩:=lf;dsimp only at c1 c2 c3 c4 NF
     have Pt:b<p:=by have h1:=Ot.o;have h2:=HB.size;omega
     have hbp2:¬b=p:=by omega
     have hpb2:¬p=b:=by omega
     clear hc OV OB
     cases pa with
     | cons k0 pa=>
      have Pq:0<np:=by rw[← NF];exact Nat.succ_pos _
      have L:ai (bq mX (fP (ls.take (k+1))) (p8 mX es i) x):=ah (by rw[NC];have h1:fP [(k0::pa,(⟨U,V,et,ev⟩:E))]=[]:=rfl;rw[h1,kT];exact N9.o)
      have s0:=OX.o
      have fz:((np:Int)==0)=false:=by rw[gN];omega
      have l:ai (Kept [(⟨b,o+k*5,none⟩,.slice Ap np cp)] wr wr.drew):=by exact ((Kept.nil wr).af c0).drew
      clear NC NF;go_wp2_with fail;refine Rk (S:=fun W=>W.cell? ⟨b,o+k*5,none⟩=some (.slice Ap np cp)) (fun hHeld=>?_);refine T4 0 19 1 20 2 21 3 22 ?_;refine T4 4 23 5 24 6 25 7 26 ?_;refine U4 8 27 9 28 10 29 11 30 ?_;refine U4 12 31 13 32 14 33 15 34 ?_;refine U4 16 35 17 36 18 37 19 38 ?_;refine U4 20 39 21 40 22 41 23 42 ?_;refine U2 24 43 25 44 ?_;refine T2 26 45 27 46 ?_;refine U4 28 47 29 48 30 49 31 50 ?_;refine U4 32 51 33 52 34 53 35 54 ?_;refine Tn 36 55 ?_
      refine U4 37 56 38 57 39 58 40 59 ?_;refine Tk 41 60 ?_;refine Td ?_;have B:=l.below;have Z:=ah (M.trans (B.mono M.size));have C:=ah (F.later B);have D:=ah (And.intro ((B.cell (p:=⟨p,0,none⟩) F.1).trans H.1) (And.intro ((B.cell (p:=⟨p,1,none⟩) F.1).trans H.2.1) (And.intro ((B.cell (p:=⟨p,2,none⟩) F.1).trans H.2.2.1) ((B.cell (p:=⟨p,3,none⟩) F.1).trans H.2.2.2))));clear B;clear hHeld;go_wp2_with fail;go_roundw
      case rel=>exact⟨k+1,x,by omega,by go_num,rfl,L,D,C,Z⟩
      case measure=>simp[intOf];omega
     | nil=>
      have Py:np=0:=by rw[← NF];rfl
      subst Py;have NR:fP (ls.take (k+1))=fP (ls.take k)++[(⟨U,V,et,ev⟩:E)]:=NC;have Nz:=ah NR;clear NC NR NF;have s0:=OX.o;have p0:=H.1;have p1:=H.2.1;have p2:=H.2.2.1;have p3:=H.2.2.2;have m0:=F.2 0;have m1:=F.2 1;have m2:=F.2 2;have m3:=F.2 3
      by_cases Qy:i=0
      ·subst Qy
       have NP:ai (p8 mX es 0 (⟨U,V,et,ev⟩:E)):=fun h _=>absurd h (by omega)
       cases x with
       | none=>
        have l:ai (Kept [(⟨b,o+k*5,none⟩,.slice Ap 0 cp),(⟨b,o+k*5+1,none⟩,.int .i64 U),(⟨b,o+k*5+2,none⟩,.int .i64 V),(⟨b,o+k*5+3,none⟩,.string et),(⟨b,o+k*5+4,none⟩,.int .i64 ev)] wr wr.drew):=by exact ((((((Kept.nil wr).af c4).af c3).af c2).af c1).af c0).drew
        go_wp2_with fail;refine Rk (S:=fun W=>W.cell? ⟨b,o+k*5,none⟩=some (.slice Ap 0 cp)∧W.cell? ⟨b,o+k*5+1,none⟩=some (.int .i64 U)∧W.cell? ⟨b,o+k*5+2,none⟩=some (.int .i64 V)∧W.cell? ⟨b,o+k*5+3,none⟩=some (.string et)∧W.cell? ⟨b,o+k*5+4,none⟩=some (.int .i64 ev)) (fun hHeld=>?_);refine T4 0 19 1 20 2 21 3 22 ?_;refine T4 4 23 5 24 6 25 7 26 ?_;refine T3 8 27 9 28 10 29 ?_;refine U4 11 30 12 31 13 32 14 33 ?_;refine U4 15 34 16 35 17 36 18 37 ?_;refine U4 19 38 20 39 21 40 22 41 ?_;refine U2 23 42 24 43 ?_;refine Tk 25 44 ?_
        refine T4 26 45 27 46 28 47 29 48 ?_;refine Tk 30 49 ?_;refine U4 31 50 32 51 33 52 34 53 ?_;refine U4 35 54 36 55 37 56 38 57 ?_;refine Tn 39 58 ?_;refine T2 40 59 41 60 ?_;refine Td ?_;have B:=l.below;have Z:=ah (M.trans (B.mono M.size));have C:=ah (F.later B);have D:=ah (And.intro ((B.cell (p:=⟨p,0,none⟩) F.1).trans H.1) (And.intro ((B.cell (p:=⟨p,1,none⟩) F.1).trans H.2.1) (And.intro ((B.cell (p:=⟨p,2,none⟩) F.1).trans H.2.2.1) ((B.cell (p:=⟨p,3,none⟩) F.1).trans H.2.2.2))));clear B;have e1:=l.c1;have e2:=l.c2;have e3:=l.c3;have e4:=l.c4
        have y0:=D.1;have y1:=D.2.1;have y2:=D.2.2.1;have y3:=D.2.2.2;have m0:=C.2 0;have m1:=C.2 1;have m2:=C.2 2;have m3:=C.2 3
        have L:ai (bq mX (fP (ls.take (k+1))) (p8 mX es 0) (some (⟨U,V,et,ev⟩:E))):=ah (by rw[Nz.o];exact nO sN NP N9)
        obtain⟨wv,O8⟩:∃ W,W=wr.drew:=⟨_,rfl⟩;obtain⟨W5,Ny⟩:∃ W,W=(((wr.drew.setCell ⟨p,0,none⟩ (.int .i64 U)).setCell ⟨p,1,none⟩ (.int .i64 V)).setCell ⟨p,2,none⟩ (.string et)).setCell ⟨p,3,none⟩ (.int .i64 ev):=⟨_,rfl⟩
        have D:ai (W5.cell? ⟨p,0,none⟩=some (.int .i64 (gZ (some ⟨U,V,et,ev⟩)).a)∧W5.cell? ⟨p,1,none⟩=some (.int .i64 (gZ (some ⟨U,V,et,ev⟩)).n)∧W5.cell? ⟨p,2,none⟩=some (.string (gZ (some ⟨U,V,et,ev⟩)).s)∧W5.cell? ⟨p,3,none⟩=some (.int .i64 (gZ (some ⟨U,V,et,ev⟩)).v)):=by
         unfold ai;rw[Ny];exact⟨by go_simp;try rfl,by go_simp;try rfl,by go_simp;try rfl,by go_simp;try rfl⟩
        have C:ai (aA p W5):=ah (by rw[Ny];exact (((C.set _ _).set _ _).set _ _).set _ _)
        have Z:ai (av wo W5):=by
         unfold ai;rw[Ny]
         have N_:wo.heap.size≤p:=by have:=Ot.o;omega
         exact (((Z.setCell (p:=⟨p,0,none⟩) N_ _).setCell (p:=⟨p,1,none⟩) N_ _).setCell (p:=⟨p,2,none⟩) N_ _).setCell (p:=⟨p,3,none⟩) N_ _
        have O4:ai (W5=((((wr.setCell ⟨p,0,none⟩ (.int .i64 U)).setCell ⟨p,1,none⟩ (.int .i64 V)).setCell ⟨p,2,none⟩ (.string et)).setCell ⟨p,3,none⟩ (.int .i64 ev)).drew):=Ny.trans rfl;clear hHeld Ny O8;go_wp2_with fail;rw[← O4.o];go_roundw
        case rel=>exact⟨k+1,some ⟨U,V,et,ev⟩,by omega,by go_num,rfl,L,D,C,Z⟩
        case measure=>simp[intOf];omega
       | some y=>
        obtain⟨ya,yn,yt,yv⟩:=y;obtain⟨l2,O7⟩:∃ z,Dt.kJ U V ya yn=z:=⟨_,rfl⟩;have Oi:=ah O7;clear O7
        replace p0:wr.cell? ⟨p,0,none⟩=some (.int .i64 ya):=p0
        replace p1:wr.cell? ⟨p,1,none⟩=some (.int .i64 yn):=p1
        replace p2:wr.cell? ⟨p,2,none⟩=some (.string yt):=p2
        replace p3:wr.cell? ⟨p,3,none⟩=some (.int .i64 yv):=p3
        have l:ai (Kept [(⟨b,o+k*5,none⟩,.slice Ap 0 cp),(⟨b,o+k*5+1,none⟩,.int .i64 U),(⟨b,o+k*5+2,none⟩,.int .i64 V),(⟨b,o+k*5+3,none⟩,.string et),(⟨b,o+k*5+4,none⟩,.int .i64 ev),(⟨p,0,none⟩,.int .i64 ya),(⟨p,1,none⟩,.int .i64 yn)] wr wr.drew):=by exact ((((((((Kept.nil wr).af p1).af p0).af c4).af c3).af c2).af c1).af c0).drew
        go_wp2_with fail;refine Rk (S:=fun W=>W.cell? ⟨b,o+k*5,none⟩=some (.slice Ap 0 cp)∧W.cell? ⟨b,o+k*5+1,none⟩=some (.int .i64 U)∧W.cell? ⟨b,o+k*5+2,none⟩=some (.int .i64 V)∧W.cell? ⟨b,o+k*5+3,none⟩=some (.string et)∧W.cell? ⟨b,o+k*5+4,none⟩=some (.int .i64 ev)∧W.cell? ⟨p,0,none⟩=some (.int .i64 ya)∧W.cell? ⟨p,1,none⟩=some (.int .i64 yn)) (fun hHeld=>?_);refine T4 0 19 1 20 2 21 3 22 ?_;refine T4 4 23 5 24 6 25 7 26 ?_;refine T3 8 27 9 28 10 29 ?_;refine U4 11 30 12 31 13 32 14 33 ?_;refine U4 15 34 16 35 17 36 18 37 ?_;refine U3 19 38 20 39 21 40 ?_
        refine U3 22 41 23 42 24 43 ?_;refine T4 25 44 26 45 27 46 28 47 ?_;refine T4 29 48 30 49 31 50 32 51 ?_;refine T4 33 52 34 53 35 54 36 55 ?_;refine T2 37 56 38 57 ?_;refine Tc 39 (fun K N=>?_);go_simp;(go_at_call 120;refine (Dt.pW U V ya yn _).mono ?_);rw[Oi.o];rintro e v2 ⟨rfl,Od⟩;have l:=ah (l.later Od);clear Od;clear hHeld;refine Th N ?_ (fun hHeld=>?_)
        ·exact⟨l.c0,l.c1,l.c2,l.c3,l.c4,l.c5,l.c6⟩
        clear N K;refine T2 40 59 41 60 ?_;refine Td ?_
        cases l2 with
        | false=>
         have L:ai (bq mX (fP (ls.take (k+1))) (p8 mX es 0) (some ⟨ya,yn,yt,yv⟩)):=ah (by rw[Nz.o];exact nP (fun h=>by have h2:Dt.kJ U V ya yn=true:=h;rw[Oi.o]at h2;cases h2) N9)
         have B:=l.below;have Z:=ah (M.trans (B.mono M.size));have C:=ah (F.later B);have D:=ah (And.intro ((B.cell (p:=⟨p,0,none⟩) F.1).trans H.1) (And.intro ((B.cell (p:=⟨p,1,none⟩) F.1).trans H.2.1) (And.intro ((B.cell (p:=⟨p,2,none⟩) F.1).trans H.2.2.1) ((B.cell (p:=⟨p,3,none⟩) F.1).trans H.2.2.2))));clear B;clear hHeld;go_wp2_with fail;go_roundw
         case rel=>exact⟨k+1,(some ⟨ya,yn,yt,yv⟩),by omega,by go_num,rfl,L,D,C,Z⟩
         case measure=>simp[intOf];omega
        | true=>
         have B:=l.below;have Z:=ah (M.trans (B.mono M.size));have C:=ah (F.later B);have D:=ah (And.intro ((B.cell (p:=⟨p,0,none⟩) F.1).trans H.1) (And.intro ((B.cell (p:=⟨p,1,none⟩) F.1).trans H.2.1) (And.intro ((B.cell (p:=⟨p,2,none⟩) F.1).trans H.2.2.1) ((B.cell (p:=⟨p,3,none⟩) F.1).trans H.2.2.2))));clear B;have e1:=l.c1;have e2:=l.c2;have e3:=l.c3;have e4:=l.c4;have y0:=D.1;have y1:=D.2.1;have y2:=D.2.2.1;have y3:=D.2.2.2;have m0:=C.2 0;have m1:=C.2 1;have m2:=C.2 2;have m3:=C.2 3
         have L:ai (bq mX (fP (ls.take (k+1))) (p8 mX es 0) (some (⟨U,V,et,ev⟩:E))):=ah (by rw[Nz.o];exact lS sN (fun _ _ _=>Bb) NP (show mX (⟨U,V,et,ev⟩:E) (⟨ya,yn,yt,yv⟩:E) from Oi.o) N9)
         obtain⟨wv,O8⟩:∃ W,W=v2:=⟨_,rfl⟩;obtain⟨W5,Ny⟩:∃ W,W=(((v2.setCell ⟨p,0,none⟩ (.int .i64 U)).setCell ⟨p,1,none⟩ (.int .i64 V)).setCell ⟨p,2,none⟩ (.string et)).setCell ⟨p,3,none⟩ (.int .i64 ev):=⟨_,rfl⟩
         have D:ai (W5.cell? ⟨p,0,none⟩=some (.int .i64 (gZ (some ⟨U,V,et,ev⟩)).a)∧W5.cell? ⟨p,1,none⟩=some (.int .i64 (gZ (some ⟨U,V,et,ev⟩)).n)∧W5.cell? ⟨p,2,none⟩=some (.string (gZ (some ⟨U,V,et,ev⟩)).s)∧W5.cell? ⟨p,3,none⟩=some (.int .i64 (gZ (some ⟨U,V,et,ev⟩)).v)):=by
          unfold ai;rw[Ny];exact⟨by go_simp;try rfl,by go_simp;try rfl,by go_simp;try rfl,by go_simp;try rfl⟩
         have C:ai (aA p W5):=ah (by rw[Ny];exact (((C.set _ _).set _ _).set _ _).set _ _)
         have Z:ai (av wo W5):=by
          unfold ai;rw[Ny]
          have N_:wo.heap.size≤p:=by have:=Ot.o;omega
          exact (((Z.setCell (p:=⟨p,0,none⟩) N_ _).setCell (p:=⟨p,1,none⟩) N_ _).setCell (p:=⟨p,2,none⟩) N_ _).setCell (p:=⟨p,3,none⟩) N_ _
         have O4:ai (W5=(((v2.setCell ⟨p,0,none⟩ (.int .i64 U)).setCell ⟨p,1,none⟩ (.int .i64 V)).setCell ⟨p,2,none⟩ (.string et)).setCell ⟨p,3,none⟩ (.int .i64 ev)):=Ny.trans rfl;clear hHeld Ny O8;go_wp2_with fail;rw[← O4.o];go_roundw
         case rel=>exact⟨k+1,some ⟨U,V,et,ev⟩,by omega,by go_num,rfl,L,D,C,Z⟩
         case measure=>simp[intOf];omega
      ·have fi:((i:Int)==0)=false:=by rw[gN];omega
       obtain⟨b2,o2,eA,Ov,Pv⟩:=fI gP HO.rd (m:=i-1) (by omega)
       have Qd:i-1<(es.take i).length:=by rw[l7,← O3.o];omega
       have Qe:i-1<es.length:=by rw[← O3.o];omega
       subst eA;have d0:=(M.cell (p:=⟨b2,o2+(i-1)*4,none⟩) Ov).trans (Pv (i-1) Qd 0 _ rfl);have d1:=(M.cell (p:=⟨b2,o2+(i-1)*4+1,none⟩) Ov).trans (Pv (i-1) Qd 1 _ rfl);rw[List.getElem_take]at d0 d1
       have NP:ai (p8 mX es i (⟨U,V,et,ev⟩:E)↔Dt.kJ (es[i-1]).a (es[i-1]).n U V=true):=by
        unfold ai p8;exact⟨fun h=>h (by omega) Qe,fun h _ _=>h⟩
       obtain⟨la,OC⟩:∃ z,z=(es[i-1]).a:=⟨_,rfl⟩;obtain⟨ln,Qf⟩:∃ z,z=(es[i-1]).n:=⟨_,rfl⟩;rw[← OC]at d0 NP;rw[← Qf]at d1 NP;obtain⟨l1,Ox⟩:∃ z,Dt.kJ la ln U V=z:=⟨_,rfl⟩;have OA:=ah Ox
       have hb2p:b2<p:=by have h1:=Ot.o;omega
       have hkm:IntKind.i64.wrap ((i:Int)-1)=((i-1:Nat):Int):=by rw[iM];omega
       have hkm2:((i-1:Nat):Int)<(i:Int):=by omega
       have hkm3:(0:Int)≤((i-1:Nat):Int):=by omega
       have hbz:¬b2=p:=by omega
       have hbz2:¬p=b2:=by omega
       clear Pv OC Qf Ox
       cases x with
       | none=>
        have l:ai (Kept [(⟨b,o+k*5,none⟩,.slice Ap 0 cp),(⟨b,o+k*5+1,none⟩,.int .i64 U),(⟨b,o+k*5+2,none⟩,.int .i64 V),(⟨b,o+k*5+3,none⟩,.string et),(⟨b,o+k*5+4,none⟩,.int .i64 ev),(⟨r,0,none⟩,.slice (some ⟨b2,o2,none⟩) i k3),(⟨b2,o2+(i-1)*4,none⟩,.int .i64 la),(⟨b2,o2+(i-1)*4+1,none⟩,.int .i64 ln)] wr wr.drew):=by exact (((((((((Kept.nil wr).af d1).af d0).af s0).af c4).af c3).af c2).af c1).af c0).drew
        go_wp2_with fail;refine Rk (S:=fun W=>W.cell? ⟨b,o+k*5,none⟩=some (.slice Ap 0 cp)∧W.cell? ⟨b,o+k*5+1,none⟩=some (.int .i64 U)∧W.cell? ⟨b,o+k*5+2,none⟩=some (.int .i64 V)∧W.cell? ⟨b,o+k*5+3,none⟩=some (.string et)∧W.cell? ⟨b,o+k*5+4,none⟩=some (.int .i64 ev)∧W.cell? ⟨r,0,none⟩=some (.slice (some ⟨b2,o2,none⟩) i k3)∧W.cell? ⟨b2,o2+(i-1)*4,none⟩=some (.int .i64 la)∧W.cell? ⟨b2,o2+(i-1)*4+1,none⟩=some (.int .i64 ln)) (fun hHeld=>?_);refine T4 0 19 1 20 2 21 3 22 ?_;refine T4 4 23 5 24 6 25 7 26 ?_;refine T4 8 27 9 28 10 29 11 30 ?_;refine T4 12 31 13 32 14 33 15 34 ?_;refine Tk 16 35 ?_
        refine T4 17 36 18 37 19 38 20 39 ?_;refine T3 21 40 22 41 23 42 ?_;refine Tc 24 (fun K N=>?_);go_simp;(go_at_call 120;refine (Dt.pW la ln U V _).mono ?_);rw[OA.o];rintro e v1 ⟨rfl,Od⟩;have l:=ah (l.later Od);clear Od;clear hHeld;refine Th N ?_ (fun hHeld=>?_)
        ·exact⟨l.c0,l.c1,l.c2,l.c3,l.c4,l.c5,l.c6,l.c7⟩
        clear N K
        cases l1 with
        | true=>
         refine T4 25 44 26 45 27 46 28 47 ?_;refine T2 29 48 30 49 ?_;refine U4 31 50 32 51 33 52 34 53 ?_;refine U4 35 54 36 55 37 56 38 57 ?_;refine Tn 39 58 ?_;refine T2 40 59 41 60 ?_;refine Td ?_;have B:=l.below;have Z:=ah (M.trans (B.mono M.size));have C:=ah (F.later B);have D:=ah (And.intro ((B.cell (p:=⟨p,0,none⟩) F.1).trans H.1) (And.intro ((B.cell (p:=⟨p,1,none⟩) F.1).trans H.2.1) (And.intro ((B.cell (p:=⟨p,2,none⟩) F.1).trans H.2.2.1) ((B.cell (p:=⟨p,3,none⟩) F.1).trans H.2.2.2))));clear B;have e1:=l.c1;have e2:=l.c2;have e3:=l.c3
         have e4:=l.c4;have y0:=D.1;have y1:=D.2.1;have y2:=D.2.2.1;have y3:=D.2.2.2;have m0:=C.2 0;have m1:=C.2 1;have m2:=C.2 2;have m3:=C.2 3
         have L:ai (bq mX (fP (ls.take (k+1))) (p8 mX es i) (some (⟨U,V,et,ev⟩:E))):=ah (by rw[Nz.o];exact nO sN (NP.2 OA) N9)
         obtain⟨wv,O8⟩:∃ W,W=v1:=⟨_,rfl⟩;obtain⟨W5,Ny⟩:∃ W,W=(((v1.setCell ⟨p,0,none⟩ (.int .i64 U)).setCell ⟨p,1,none⟩ (.int .i64 V)).setCell ⟨p,2,none⟩ (.string et)).setCell ⟨p,3,none⟩ (.int .i64 ev):=⟨_,rfl⟩
         have D:ai (W5.cell? ⟨p,0,none⟩=some (.int .i64 (gZ (some ⟨U,V,et,ev⟩)).a)∧W5.cell? ⟨p,1,none⟩=some (.int .i64 (gZ (some ⟨U,V,et,ev⟩)).n)∧W5.cell? ⟨p,2,none⟩=some (.string (gZ (some ⟨U,V,et,ev⟩)).s)∧W5.cell? ⟨p,3,none⟩=some (.int .i64 (gZ (some ⟨U,V,et,ev⟩)).v)):=by
          unfold ai;rw[Ny];exact⟨by go_simp;try rfl,by go_simp;try rfl,by go_simp;try rfl,by go_simp;try rfl⟩
         have C:ai (aA p W5):=ah (by rw[Ny];exact (((C.set _ _).set _ _).set _ _).set _ _)
         have Z:ai (av wo W5):=by
          unfold ai;rw[Ny]
          have N_:wo.heap.size≤p:=by have:=Ot.o;omega
          exact (((Z.setCell (p:=⟨p,0,none⟩) N_ _).setCell (p:=⟨p,1,none⟩) N_ _).setCell (p:=⟨p,2,none⟩) N_ _).setCell (p:=⟨p,3,none⟩) N_ _
         have O4:ai (W5=(((v1.setCell ⟨p,0,none⟩ (.int .i64 U)).setCell ⟨p,1,none⟩ (.int .i64 V)).setCell ⟨p,2,none⟩ (.string et)).setCell ⟨p,3,none⟩ (.int .i64 ev)):=Ny.trans rfl;clear hHeld Ny O8;go_wp2_with fail;rw[← O4.o];go_roundw
         case rel=>exact⟨k+1,some ⟨U,V,et,ev⟩,by omega,by go_num,rfl,L,D,C,Z⟩
         case measure=>simp[intOf];omega
        | false=>
         refine T3 25 44 26 45 27 46 ?_;refine U4 28 47 29 48 30 49 31 50 ?_;refine U4 32 51 33 52 34 53 35 54 ?_;refine U4 36 55 37 56 38 57 39 58 ?_;refine Tn 40 59 ?_;refine Tk 41 60 ?_;refine Td ?_
         have L:ai (bq mX (fP (ls.take (k+1))) (p8 mX es i) none):=ah (by rw[Nz.o];exact lT (fun h=>by have h2:=NP.1 h;rw[OA.o]at h2;cases h2) N9)
         have B:=l.below;have Z:=ah (M.trans (B.mono M.size));have C:=ah (F.later B);have D:=ah (And.intro ((B.cell (p:=⟨p,0,none⟩) F.1).trans H.1) (And.intro ((B.cell (p:=⟨p,1,none⟩) F.1).trans H.2.1) (And.intro ((B.cell (p:=⟨p,2,none⟩) F.1).trans H.2.2.1) ((B.cell (p:=⟨p,3,none⟩) F.1).trans H.2.2.2))));clear B;clear hHeld;go_wp2_with fail;go_roundw
         case rel=>exact⟨k+1,none,by omega,by go_num,rfl,L,D,C,Z⟩
         case measure=>simp[intOf];omega
       | some y=>
        obtain⟨ya,yn,yt,yv⟩:=y;obtain⟨l2,O7⟩:∃ z,Dt.kJ U V ya yn=z:=⟨_,rfl⟩;have Oi:=ah O7;clear O7
        replace p0:wr.cell? ⟨p,0,none⟩=some (.int .i64 ya):=p0
        replace p1:wr.cell? ⟨p,1,none⟩=some (.int .i64 yn):=p1
        replace p2:wr.cell? ⟨p,2,none⟩=some (.string yt):=p2
        replace p3:wr.cell? ⟨p,3,none⟩=some (.int .i64 yv):=p3
        have l:ai (Kept [(⟨b,o+k*5,none⟩,.slice Ap 0 cp),(⟨b,o+k*5+1,none⟩,.int .i64 U),(⟨b,o+k*5+2,none⟩,.int .i64 V),(⟨b,o+k*5+3,none⟩,.string et),(⟨b,o+k*5+4,none⟩,.int .i64 ev),(⟨p,0,none⟩,.int .i64 ya),(⟨p,1,none⟩,.int .i64 yn),(⟨r,0,none⟩,.slice (some ⟨b2,o2,none⟩) i k3),(⟨b2,o2+(i-1)*4,none⟩,.int .i64 la),(⟨b2,o2+(i-1)*4+1,none⟩,.int .i64 ln)] wr wr.drew):=by exact (((((((((((Kept.nil wr).af d1).af d0).af s0).af p1).af p0).af c4).af c3).af c2).af c1).af c0).drew
        go_wp2_with fail;refine Rk (S:=fun W=>W.cell? ⟨b,o+k*5,none⟩=some (.slice Ap 0 cp)∧W.cell? ⟨b,o+k*5+1,none⟩=some (.int .i64 U)∧W.cell? ⟨b,o+k*5+2,none⟩=some (.int .i64 V)∧W.cell? ⟨b,o+k*5+3,none⟩=some (.string et)∧W.cell? ⟨b,o+k*5+4,none⟩=some (.int .i64 ev)∧W.cell? ⟨p,0,none⟩=some (.int .i64 ya)∧W.cell? ⟨p,1,none⟩=some (.int .i64 yn)∧W.cell? ⟨r,0,none⟩=some (.slice (some ⟨b2,o2,none⟩) i k3)∧W.cell? ⟨b2,o2+(i-1)*4,none⟩=some (.int .i64 la)∧W.cell? ⟨b2,o2+(i-1)*4+1,none⟩=some (.int .i64 ln)) (fun hHeld=>?_);refine T4 0 19 1 20 2 21 3 22 ?_;refine T4 4 23 5 24 6 25 7 26 ?_;refine T4 8 27 9 28 10 29 11 30 ?_
        refine T4 12 31 13 32 14 33 15 34 ?_;refine T4 16 35 17 36 18 37 19 38 ?_;refine T4 20 39 21 40 22 41 23 42 ?_;refine Tc 24 (fun K N=>?_);go_simp;(go_at_call 120;refine (Dt.pW la ln U V _).mono ?_);rw[OA.o];rintro e v1 ⟨rfl,Od⟩;have l:=ah (l.later Od);clear Od;clear hHeld;refine Th N ?_ (fun hHeld=>?_)
        ·exact⟨l.c0,l.c1,l.c2,l.c3,l.c4,l.c5,l.c6,l.c7,l.tail.tail.c6,l.tail.tail.c7⟩
        clear N K
        cases l1 with
        | true=>
         refine T4 25 44 26 45 27 46 28 47 ?_;refine T4 29 48 30 49 31 50 32 51 ?_;refine T4 33 52 34 53 35 54 36 55 ?_;refine T2 37 56 38 57 ?_;refine Tc 39 (fun K N=>?_);go_simp;(go_at_call 120;refine (Dt.pW U V ya yn _).mono ?_);rw[Oi.o];rintro e v2 ⟨rfl,Od⟩;have l:=ah (l.later Od);clear Od;clear hHeld;refine Th N ?_ (fun hHeld=>?_)
         ·exact⟨l.c0,l.c1,l.c2,l.c3,l.c4,l.c5,l.c6,l.c7,l.tail.tail.c6,l.tail.tail.c7⟩
         clear N K;refine T2 40 59 41 60 ?_;refine Td ?_
         cases l2 with
         | false=>
          have L:ai (bq mX (fP (ls.take (k+1))) (p8 mX es i) (some ⟨ya,yn,yt,yv⟩)):=ah (by rw[Nz.o];exact nP (fun h=>by have h2:Dt.kJ U V ya yn=true:=h;rw[Oi.o]at h2;cases h2) N9)
          have B:=l.below;have Z:=ah (M.trans (B.mono M.size));have C:=ah (F.later B);have D:=ah (And.intro ((B.cell (p:=⟨p,0,none⟩) F.1).trans H.1) (And.intro ((B.cell (p:=⟨p,1,none⟩) F.1).trans H.2.1) (And.intro ((B.cell (p:=⟨p,2,none⟩) F.1).trans H.2.2.1) ((B.cell (p:=⟨p,3,none⟩) F.1).trans H.2.2.2))));clear B;clear hHeld;go_wp2_with fail;go_roundw
          case rel=>exact⟨k+1,(some ⟨ya,yn,yt,yv⟩),by omega,by go_num,rfl,L,D,C,Z⟩
          case measure=>simp[intOf];omega
         | true=>
          have B:=l.below;have Z:=ah (M.trans (B.mono M.size));have C:=ah (F.later B);have D:=ah (And.intro ((B.cell (p:=⟨p,0,none⟩) F.1).trans H.1) (And.intro ((B.cell (p:=⟨p,1,none⟩) F.1).trans H.2.1) (And.intro ((B.cell (p:=⟨p,2,none⟩) F.1).trans H.2.2.1) ((B.cell (p:=⟨p,3,none⟩) F.1).trans H.2.2.2))));clear B;have e1:=l.c1;have e2:=l.c2;have e3:=l.c3;have e4:=l.c4;have y0:=D.1;have y1:=D.2.1;have y2:=D.2.2.1;have y3:=D.2.2.2;have m0:=C.2 0;have m1:=C.2 1;have m2:=C.2 2;have m3:=C.2 3
          have L:ai (bq mX (fP (ls.take (k+1))) (p8 mX es i) (some (⟨U,V,et,ev⟩:E))):=ah (by rw[Nz.o];exact lS sN (fun _ _ _=>Bb) (NP.2 OA) (show mX (⟨U,V,et,ev⟩:E) (⟨ya,yn,yt,yv⟩:E) from Oi.o) N9)
          obtain⟨wv,O8⟩:∃ W,W=v2:=⟨_,rfl⟩;obtain⟨W5,Ny⟩:∃ W,W=(((v2.setCell ⟨p,0,none⟩ (.int .i64 U)).setCell ⟨p,1,none⟩ (.int .i64 V)).setCell ⟨p,2,none⟩ (.string et)).setCell ⟨p,3,none⟩ (.int .i64 ev):=⟨_,rfl⟩
          have D:ai (W5.cell? ⟨p,0,none⟩=some (.int .i64 (gZ (some ⟨U,V,et,ev⟩)).a)∧W5.cell? ⟨p,1,none⟩=some (.int .i64 (gZ (some ⟨U,V,et,ev⟩)).n)∧W5.cell? ⟨p,2,none⟩=some (.string (gZ (some ⟨U,V,et,ev⟩)).s)∧W5.cell? ⟨p,3,none⟩=some (.int .i64 (gZ (some ⟨U,V,et,ev⟩)).v)):=by
           unfold ai;rw[Ny];exact⟨by go_simp;try rfl,by go_simp;try rfl,by go_simp;try rfl,by go_simp;try rfl⟩
          have C:ai (aA p W5):=ah (by rw[Ny];exact (((C.set _ _).set _ _).set _ _).set _ _)
          have Z:ai (av wo W5):=by
           unfold ai;rw[Ny]
           have N_:wo.heap.size≤p:=by have:=Ot.o;omega
           exact (((Z.setCell (p:=⟨p,0,none⟩) N_ _).setCell (p:=⟨p,1,none⟩) N_ _).setCell (p:=⟨p,2,none⟩) N_ _).setCell (p:=⟨p,3,none⟩) N_ _
          have O4:ai (W5=(((v2.setCell ⟨p,0,none⟩ (.int .i64 U)).setCell ⟨p,1,none⟩ (.int .i64 V)).setCell ⟨p,2,none⟩ (.string et)).setCell ⟨p,3,none⟩ (.int .i64 ev)):=Ny.trans rfl;clear hHeld Ny O8;go_wp2_with fail;rw[← O4.o];go_roundw
          case rel=>exact⟨k+1,some ⟨U,V,et,ev⟩,by omega,by go_num,rfl,L,D,C,Z⟩
          case measure=>simp[intOf];omega
        | false=>
         refine T3 25 44 26 45 27 46 ?_;refine U4 28 47 29 48 30 49 31 50 ?_;refine U4 32 51 33 52 34 53 35 54 ?_;refine U4 36 55 37 56 38 57 39 58 ?_;refine Tn 40 59 ?_;refine Tk 41 60 ?_;refine Td ?_
         have L:ai (bq mX (fP (ls.take (k+1))) (p8 mX es i) (some ⟨ya,yn,yt,yv⟩)):=ah (by rw[Nz.o];exact lT (fun h=>by have h2:=NP.1 h;rw[OA.o]at h2;cases h2) N9)
         have B:=l.below;have Z:=ah (M.trans (B.mono M.size));have C:=ah (F.later B);have D:=ah (And.intro ((B.cell (p:=⟨p,0,none⟩) F.1).trans H.1) (And.intro ((B.cell (p:=⟨p,1,none⟩) F.1).trans H.2.1) (And.intro ((B.cell (p:=⟨p,2,none⟩) F.1).trans H.2.2.1) ((B.cell (p:=⟨p,3,none⟩) F.1).trans H.2.2.2))));clear B;clear hHeld;go_wp2_with fail;go_roundw
         case rel=>exact⟨k+1,(some ⟨ya,yn,yt,yv⟩),by omega,by go_num,rfl,L,D,C,Z⟩
         case measure=>simp[intOf];omega
    ·obtain rfl:n=k:=by omega
     have G:=N9.o;rw[eH (by rw[OL.o];omega)]at G;have G:=GJ HM HT (by rw[← O3.o];exact hi) G;have s0:=OX.o
     cases x with
     | none=>
      have OQ:i=ne:=by
       rw[eq_comm,List.getElem?_eq_none_iff]at G;have:=O3.o;omega
      subst OQ
      have PU:ai (RO wr (fun b=>r+1≤b∧(Value.slice none 0 0).ownBlock≠some b) 4 A3 i k3 (bV es)):=by
       have h1:=HO.o;rw[eH (by rw[← O3.o];omega)]at h1;exact ((RO.b_ h1).keep M.size (fun b _ O=>M.block b O)).mono (fun b Y _=>⟨Y.1,by simp[Value.ownBlock]⟩)
      have Ps:ai (es.length=i):=O3.symm;have Pg:=ah (And.intro s0 (And.intro ((M.cell (p:=⟨r,1,none⟩) Nv.1).trans R.2.1) (And.intro ((M.cell (p:=⟨q,0,none⟩) Nw.1).trans R.2.2.1) ((M.cell (p:=⟨q,1,none⟩) Nw.1).trans R.2.2.2))));have Pk:=ah (Nv.later M);have Pj:=ah (Nw.later M);have Pn:ai (r+1≤wr.heap.size):=aN NI M.size;have P_:=ah (HB.trans (M.mono HB.size));clear s0 G;rw[show (Option.isSome (none:Option E))=false from rfl];go_wp2_with fail
      go_loopw [8] (fun s wz=>∃ (j:Nat) (Ax:Option Addr) (cx:Nat) (kr:List (ByteArray×SV×SV)),j≤nk∧s = .string (bD ks j)∧ai (bK wz (r+1) 134 Ax j cx (ks.take j) kr)∧ai (RO wz (fun b=>r+1≤b∧(Value.slice Ax j cx).ownBlock≠some b) 4 A3 i k3 (bV es))∧ai (wz.cell? ⟨r,0,none⟩=some (.slice A3 i k3)∧wz.cell? ⟨r,1,none⟩=some (.slice Ax j cx)∧wz.cell? ⟨q,0,none⟩=some (.slice none 0 0)∧wz.cell? ⟨q,1,none⟩=some (.slice none 0 0))∧ai (aA r wz)∧ai (aA q wz)∧ai (r+1≤wz.heap.size)∧ai (av w wz)) (fun _ wz=>nk+1-dS (wz.cell? ⟨r,1,none⟩))
      case atStart=>exact⟨0,none,0,[],by omega,rfl,bK.nil _ _ _,PU,Pg,Pk,Pj,Pn,P_⟩
      case round=>
       clear HO R Nv Nw NI HB N9 H F M OX PU Pg Pk Pj Pn P_ Ot Qa PG;obtain⟨j,Ax,cx,kr,hj,rfl,Oh,OY,R,Nv,Nw,NI,HB⟩:=hrel;obtain⟨wk,Q7⟩:∃ W,W=wr:=⟨_,rfl⟩;subst Q7;obtain⟨la,OC⟩:∃ z,z=bD ks j:=⟨_,rfl⟩;rw[← OC];have Qp:=ah OC;clear OC;go_wp2_with fail
       go_loopw [9,77] (fun s z wz=>∃ (k:Nat) (x:Option ByteArray),k≤n∧z = .int .i64 k∧s = .string (qQ x)∧wk=wz∧ai (bq cK (iC (ls.take k)) (p8 cK (ks.map fun x=>x.1) j) x)) (fun _ z _=>n-(intOf z).toNat)
       case atStart=>exact⟨0,none,by omega,by first | rfl | trivial,by first | rfl | trivial,by first | rfl | trivial,by unfold ai;intro y hy;simp[iC]at hy⟩
       case round=>
        obtain⟨k,x,hk,rfl,rfl,rfl,N9⟩:=hrel
        by_cases O:k<n
        ·have OT:k<ls.length:=by rw[OL.o];exact O
         obtain⟨b,o,rfl,Y,hc⟩:=mh.at_ HL (by omega);obtain⟨⟨Ap,np,cp⟩,c0,_,_,_,_,NF,OD⟩:=hc k OT;dsimp only at c0 NF OD;have c0:=(HB.cell (p:=⟨b,o+k*5,none⟩) Y).trans c0;have NC:=E9 OT
         have O_:∀ y∈iC (ls.take (k+1)),1≤y.size:=fun y hy=>Jw HT ((zF HM y).1 (by
          unfold iC at hy ⊢;rw[List.mem_filterMap]at hy ⊢;obtain⟨a,ha,he⟩:=hy
          exact⟨a,List.mem_of_mem_take ha,he⟩))
         obtain⟨lf,OV⟩:∃ z,z=ls[k]:=⟨_,rfl⟩;rw[← OV]at NF OD NC;obtain⟨pa,e⟩:=lf;dsimp only at NF OD;clear hc OV
         cases pa with
         | nil=>
          have Py:np=0:=by rw[← NF];rfl
          subst Py
          have L:ai (bq cK (iC (ls.take (k+1))) (p8 cK (ks.map fun x=>x.1) j) x):=ah (by rw[NC];have h1:iC [(([]:List ByteArray),e)]=[]:=rfl;rw[h1,kT];exact N9.o)
          clear NC NF OD O_;go_wp2_with fail;go_roundw
          case rel=>exact⟨k+1,x,by omega,by go_num,by first | rfl | trivial,by first | rfl | trivial,L⟩
          case measure=>simp[intOf];omega
         | cons k0 pa=>
          have Pq:0<np:=by rw[← NF];exact Nat.succ_pos _
          have fz:decide ((0:Int)<(np:Int))=true:=aJ (by omega)
          have fz2:(0:Int)<(np:Int):=by omega
          obtain⟨b1,o1,rfl,OO,_,Qc⟩:=OD.at_ Pq;have p0:=(HB.cell (p:=⟨b1,o1,none⟩) OO).trans (by simpa [strs] using Qc 0 (.string k0) (by simp[strs]));have NR:iC (ls.take (k+1))=iC (ls.take k)++[k0]:=NC;have Q0:1≤k0.size:=O_ k0 (by rw[NR];exact Ea _ fA);have Pb:=GD (ks:=ks) (j:=j) Q0 (by rw[← OJ.o];exact hj);rw[← Qp.o]at Pb;obtain⟨l1,Ox⟩:∃ z,Op.bytesLess la.toList k0.toList=z:=⟨_,rfl⟩;rw[Ox]at Pb;have NP:=ah Pb;have Nz:=ah NR;have PN:=ah O_;clear Qc OD NF NC NR Pb O_
          cases l1 with
          | false=>
           have L:ai (bq cK (iC (ls.take (k+1))) (p8 cK (ks.map fun x=>x.1) j) x):=ah (by rw[Nz.o];exact lT (fun h=>by have h2:=NP.1 h;cases h2) N9)
           have Qm:Op.bytesLess k0.toList la.toList=true∨k0=la:=by
            rcases aQ.tri k0 la with h | h | h
            ·exact .inl h
            ·exact .inr h
            ·have h2:Op.bytesLess la.toList k0.toList=true:=h
             rw[Ox]at h2
             cases h2
           rcases Qm with ft | rfl
           ·clear Ox
            go_wp2_with fail;go_roundw
            case rel=>exact⟨k+1,x,by omega,by go_num,by first | rfl | trivial,by first | rfl | trivial,L⟩
            case measure=>simp[intOf];omega
           ·go_wp2_with fail
            go_roundw
            case rel=>exact⟨k+1,x,by omega,by go_num,by first | rfl | trivial,by first | rfl | trivial,L⟩
            case measure=>simp[intOf];omega
          | true=>
           have ft:Op.bytesLess k0.toList la.toList=false:=by
            cases h:Op.bytesLess k0.toList la.toList with
            | false=>rfl
            | true=>exact absurd (aQ.tr k0 la k0 h Ox) (aQ.irr k0)
           have Qb:(k0.toList==la.toList)=false:=dJ (fun e=>by subst e;exact absurd Ox (by have:=aQ.irr k0;exact this))
           have ft3:¬k0.toList=la.toList:=by rw[gN]at Qb;exact Qb
           cases x with
           | none=>
            have L:ai (bq cK (iC (ls.take (k+1))) (p8 cK (ks.map fun x=>x.1) j) (some k0)):=ah (by rw[Nz.o];exact nO aQ.irr (NP.2 rfl) N9)
            rw[show qQ none=⟨#[]⟩ from rfl];have fe:=mJ;go_wp2_with fail;go_roundw
            case rel=>exact⟨k+1,some k0,by omega,by go_num,by first | rfl | trivial,by first | rfl | trivial,L⟩
            case measure=>simp[intOf];omega
           | some y=>
            have Pf:1≤y.size:=PN.o y (by rw[Nz.o];exact yC _ N9.1);rw[show qQ (some y)=y from rfl];have fy:=mQ Pf;obtain⟨l2,O7⟩:∃ z,Op.bytesLess k0.toList y.toList=z:=⟨_,rfl⟩;have Oi:=ah O7
            cases l2 with
            | false=>
             have L:ai (bq cK (iC (ls.take (k+1))) (p8 cK (ks.map fun x=>x.1) j) (some y)):=ah (by rw[Nz.o];exact nP (fun h=>by have h2:Op.bytesLess k0.toList y.toList=true:=h;rw[Oi.o]at h2;cases h2) N9)
             go_wp2_with fail;go_roundw
             case rel=>exact⟨k+1,some y,by omega,by go_num,by first | rfl | trivial,by first | rfl | trivial,L⟩
             case measure=>simp[intOf];omega
            | true=>
             have L:ai (bq cK (iC (ls.take (k+1))) (p8 cK (ks.map fun x=>x.1) j) (some k0)):=ah (by rw[Nz.o];exact lS aQ.irr (fun _ _ _=>aQ.tr _ _ _) (NP.2 rfl) (show cK k0 y from Oi.o) N9)
             go_wp2_with fail;go_roundw
             case rel=>exact⟨k+1,some k0,by omega,by go_num,by first | rfl | trivial,by first | rfl | trivial,L⟩
             case measure=>simp[intOf];omega
        ·obtain rfl:n=k:=by omega
         have G:=N9.o;rw[eH (by rw[OL.o];omega)]at G;have G:=GK HM HT (by rw[← OJ.o];exact hj) G
         cases x with
         | none=>
          have Oj:j=nk:=by
           rw[eq_comm,List.getElem?_eq_none_iff,eO]at G;have:=OJ.o;omega
          have Po:ks.take j=ks:=eH (by rw[← OJ.o];omega);subst Oj;have Pw:=Oh.o;rw[Po]at Pw;have Qu:=ah (Pw.tree (ok:=fun b=>w.heap.size≤b∧b≠q) (fun b Y _=>⟨by omega,fun e=>by have:=NE.o;omega⟩) (es:=es) (se:=⟨A3,i,k3⟩) Ps (OY.mono (fun b Y _=>⟨by omega,fun e=>by have:=NE.o;omega⟩)));have z0:=R.1;have z1:=R.2.1;have z2:=R.2.2.1;have z3:=R.2.2.2;have m0:=Nw.2 0;have m1:=Nw.2 1;have fe:=mJ;rw[show qQ none=⟨#[]⟩ from rfl];clear Po Pw G;obtain⟨w9,OG⟩:∃ W,W=(wk.setCell ⟨q,0,none⟩ (.slice A3 i k3)).setCell ⟨q,1,none⟩ (.slice Ax j cx):=⟨_,rfl⟩
          have Qs:ai (aW w9 (fun b=>w.heap.size≤b) (.mk es ks) ⟨A3,i,k3⟩ ⟨Ax,j,cx⟩):=by
           unfold ai;rw[OG];refine aW.mono (fun b Y _=>Y.1) _ (aW.keep (ok:=fun b=>w.heap.size≤b∧b≠q) (by simp[World.setCell]) (fun b Y O=>?_) _ Qu);exact (cZ _ ⟨q,1,none⟩ _ b (fun e=>Y.2 e)).trans (cZ _ ⟨q,0,none⟩ _ b (fun e=>Y.2 e))
          have PE:ai (av w w9):=ah (by rw[OG];exact (HB.setCell (p:=⟨q,0,none⟩) Qn _).setCell (p:=⟨q,1,none⟩) Qn _)
          have j0:w9.cell? ⟨q,0,none⟩=some (.slice A3 i k3):=by rw[OG];go_simp
          have j1:w9.cell? ⟨q,1,none⟩=some (.slice Ax j cx):=by rw[OG];go_simp
          have Qx:=ah OG;clear OG;go_wp2_with fail;rw[← Qx.o];refine bodyPost_ret (v:=.agg #[.slice A3 i k3,.slice Ax j cx]) (by simp[results,Tryz.results112,go_sem,j0,j1]) rfl ⟨A3,i,k3,Ax,j,cx,rfl,Qs,PE⟩
         | some y=>
          have Oj:j<ks.length:=by
           by_cases h:j<ks.length
           ·exact h
           ·rw[List.getElem?_eq_none (by rw[eO];omega)]at G;cases G
          have hy:(ks[j]).1=y:=by
           rw[vw (by rw[eO];exact Oj),List.getElem_map]at G;injection G with G;exact G.symm
          have Pd:j+1≤nk:=by have:=OJ.o;omega
          obtain⟨u,hu⟩:∃ z,z=(ks[j]).2:=⟨_,rfl⟩;have OM:=HT.o
          have Qk:au d u:=by rw[hu];exact (OM.2.2.2 _ (bT Oj)).2.2
          have PX:ai (∀ x,x∈under ls y↔x∈leaves u):=fun x=>by
           have h1:under (leaves (.mk es ks)) y=leaves u:=by
            rw[oP OM y,hu,← hy];exact congrArg leaves (zJ OM.2.2.1 j Oj)
           rw[I7 HM.o,h1]
          have Qj:nodes u≤100000:=by rw[hu];exact aN (dM (bT Oj)) HN
          have OI:ai (ks.take (j+1)=ks.take j++[(y,u)]):=ah (by rw[dZ Oj,hu,← hy])
          have O9:ai (bD ks (j+1)=y):=by
           show ((ks.map fun x=>x.1)[j]?).getD ⟨#[]⟩=y;rw[vw (by rw[eO];exact Oj),List.getElem_map];exact hy
          have P9:=Ah ls n A c y wk.drew Qg ((HL.below (bG) HB.drew).more HB.drew.size);obtain⟨m4,Px⟩:∃ z,z=(under ls y).length:=⟨_,rfl⟩;rw[← Px]at P9
          have Pm:ai (m4≤100000):=by
           unfold ai;rw[Px];exact aN (List.length_filterMap_le _ _) (by rw[OL.o];exact Qg)
          have PZ:=ah P9;have PO:=ah Qj;have PV:=ah Qk
          have Pf:1≤y.size:=by rw[← hy];exact (OM.2.2.2 _ (bT Oj)).1.1
          have fy:=mQ Pf;have s1:=R.2.1;rw[show qQ (some y)=y from rfl];clear G hy hu OM Qk Qj P9 Px Oj Pf;go_wp2_with fail;refine Rg (S:=fun _=>True) (by trivial) (fun hHeld=>?_);refine T4 0 124 2 126 3 127 4 128 ?_;refine wpAnyH_ready (rs:=[1,5]) (by kernel_rfl) (by simp) ?_;refine AllReadyH.cons (o:=⟨some 125,_,_,_,_,_⟩) rfl (fun K N=>?_) (AllReadyH.cons (o:=⟨some 129,_,_,_,_,_⟩) rfl (fun K N=>?_) (AllReadyH.nil))
          ·go_simp
           refine Th N ?_ (fun f=>?_)
           ·trivial
           clear N K hHeld;have hHeld:=f;clear f;refine Tc 5 (fun K N=>?_);go_simp;(go_at_call 118;refine PZ.mono ?_);rintro e w4 ⟨A4,c4,rfl,OU,OP⟩;have Oc:av wk w4:=((Below.refl wk.heap.size wk).drew).trans OP;have x1:=(Oc.cell (p:=⟨r,1,none⟩) Nv.1).trans R.2.1;have NQ:=ah Oc;have OW:=ah (PL.o u PV _ PX A4 m4 c4 w4 Pm PO OU);clear OP Oc OU;refine Th N ?_ (fun f=>?_)
           ·trivial
           clear N K hHeld;have hHeld:=f;clear f;refine Tc 6 (fun K N=>?_);go_simp;(go_at_call 112;refine OW.mono ?_);rintro e w5 ⟨NG,NM,NJ,NH,NN,NK,rfl,Ob,Ow⟩;have g:av wk w5:=NQ.trans (Ow.mono NQ.size);have NV:=Oh.later g;have NZ:=OY.keep g.size (fun b _ O=>g.block b O);have O1:aW w5 (fun b=>r+1≤b∧(Value.slice Ax j cx).ownBlock≠some b) u ⟨NG,NM,NJ⟩ ⟨NH,NN,NK⟩:=aW.mono (fun b Y _=>⟨by have h1:=NI.o;have h2:=NQ.size;have h3:w4.heap.size≤b:=Y;omega,fun e=>by have h1:=(Oh.own.row.lt b e).2;have h2:=NQ.size;have h3:w4.heap.size≤b:=Y;omega⟩) _ Ob;obtain⟨A6,c6,w6,r6,NW,N8,X⟩:=bK.vI (k:=(y,⟨NG,NM,NJ⟩,⟨NH,NN,NK⟩)) Tryz.underlying33 qR rfl (by omega) NV w5.heap.size rfl (aN NI g.size) O1 (by omega) #[.string y,.slice NG NM NJ,.slice NH NN NK] rfl
           have Oa:=N8.size;have N7:r<w5.heap.size:=cO Nv.1 g.size;have Oy:q<w5.heap.size:=cO Nw.1 g.size
           have Og:∀ x,x≤r→(Value.slice Ax j cx).ownBlock≠some x:=fun x hx e=>by have h1:=(Oh.own.row.lt x e).1;omega
           have t0:=(g.cell (p:=⟨r,1,none⟩) Nv.1).trans s1;have K6:∀ x,x≤r→x<w5.heap.size→∀ j,w6.cell? ⟨x,j,none⟩=w5.cell? ⟨x,j,none⟩:=fun x hx hl j=>bU (a:=⟨x,j,none⟩) (X x (Og x hx) hl).1;have F6:∀ x,x≤r→x<w5.heap.size→∀ j,w6.frozen? ⟨x,j,none⟩=w5.frozen? ⟨x,j,none⟩:=fun x hx hl j=>DZ (a:=⟨x,j,none⟩) (X x (Og x hx) hl).1;have u0:=(K6 r (bG) N7 1).trans t0;have mr:=(F6 r (bG) N7 1).trans ((Nv.later g).2 1);obtain⟨Q,J⟩:∃ W,W=w6.setCell ⟨r,1,none⟩ (.slice A6 (j+1) c6):=⟨_,rfl⟩
           have Oe:∀ x,x≠r→Q.heap[x]?=w6.heap[x]?:=fun x hx=>by rw[J];exact cZ _ ⟨r,1,none⟩ _ x (fun e=>hx e)
           have v0:Q.cell? ⟨r,1,none⟩=some (.slice A6 (j+1) c6):=by rw[J];go_simp
           have v1:Q.cell? ⟨r,0,none⟩=some (.slice A3 i k3):=by
            rw[J,oV w6 ⟨r,1,none⟩ ⟨r,0,none⟩ _ (fun e=>by injection e with _ e;cases e),K6 r (bG) N7 0];exact (g.cell (p:=⟨r,0,none⟩) Nv.1).trans R.1
           have v2:∀ x j,x≠r→x≤r→x<wk.heap.size→Q.cell? ⟨x,j,none⟩=wk.cell? ⟨x,j,none⟩:=fun x j hx hl O=>((bU (a:=⟨x,j,none⟩) (Oe x hx)).trans (K6 x hl (cO O g.size) j)).trans (g.cell (p:=⟨x,j,none⟩) O)
           have NS:ai (Q.cell? ⟨r,0,none⟩=some (.slice A3 i k3)∧Q.cell? ⟨r,1,none⟩=some (.slice A6 (j+1) c6)∧Q.cell? ⟨q,0,none⟩=some (.slice none 0 0)∧Q.cell? ⟨q,1,none⟩=some (.slice none 0 0)):=
            ⟨v1,v0,(v2 q 0 OE (by have:=NE.o;omega) Nw.1).trans R.2.2.1,(v2 q 1 OE (by have:=NE.o;omega) Nw.1).trans R.2.2.2⟩
           have O0:Q.heap.size=w6.heap.size:=by rw[J];simp[World.setCell]
           have Oz:w5.heap.size≤w6.heap.size:=Oa
           have Ol:ai (bK Q (r+1) 134 A6 (j+1) c6 (ks.take (j+1)) (kr++[(y,⟨NG,NM,NJ⟩,⟨NH,NN,NK⟩)])):=by
            unfold ai;rw[OI.o];exact NW.M5 (m_ r) J
           have Om:ai (RO Q (fun b=>r+1≤b∧(Value.slice A6 (j+1) c6).ownBlock≠some b) 4 A3 i k3 (bV es)):=
            ((NZ.mono (ok':=fun b=>r+1≤b∧(Value.slice Ax j cx).ownBlock≠some b∧(Value.slice A6 (j+1) c6).ownBlock≠some b) (fun b Y O=>⟨Y.1,Y.2,(X b Y.2 O).2⟩)).keep (by omega) (fun b Y O=>(Oe b (by omega)).trans (X b Y.2.1 O).1)).mono (fun b Y _=>⟨Y.1,Y.2.2⟩)
           have NU:ai (aA r Q):=by
            unfold ai;refine⟨by omega,fun j=>?_⟩;rw[J,yV];exact (F6 r (bG) N7 j).trans ((Nv.later g).2 j)
           have NT:ai (aA q Q):=by
            unfold ai;refine⟨by omega,fun j=>?_⟩;rw[J,yV];exact (F6 q (by have:=NE.o;omega) Oy j).trans ((Nw.later g).2 j)
           have NY:ai (r+1≤Q.heap.size):=by have:=NI.o;have:=g.size;unfold ai;omega
           have Oo:ai (av w Q):=by
            unfold ai;rw[J];exact ((HB.trans (g.mono HB.size)).trans (N8.mono (by omega))).setCell (p:=⟨r,1,none⟩) Pe _
           have Oq:ai (nk+1-dS (Q.cell? ⟨r,1,none⟩)<nk+1-dS (wk.cell? ⟨r,1,none⟩)):=by
            unfold ai;rw[v0,R.o.2.1];show nk+1-(j+1)<nk+1-j;omega
           have NA:=ah r6;have Ou:=ah J;clear Ob Ow g NV NZ O1 r6 NW N8 X Og K6 F6 J Oe v0 v1 v2 O0 Oz Oa;refine Th N ?_ (fun f=>?_)
           ·trivial
           clear N K hHeld;have hHeld:=f;clear f;refine Tk 7 131 ?_;refine Tc 8 (fun K N=>?_);go_simp;refine Th N ?_ (fun f=>?_)
           ·trivial
           clear N K hHeld;have hHeld:=f;clear f;refine Tc 9 (fun K N=>?_);refine bg _ _ _ rfl rfl rfl NA ?_;refine Th N ?_ (fun f=>?_)
           ·trivial
           clear N K hHeld;have hHeld:=f;clear f;refine Tk 10 134 ?_;refine Tc 11 (fun K N=>?_);go_simp;refine Th N ?_ (fun f=>?_)
           ·trivial
           clear N K hHeld;have hHeld:=f;clear f;refine Td ?_;clear t0 u0 mr NA hHeld x1 s1;go_wp2_with fail;rw[← Ou.o];go_roundw
           case rel=>exact⟨j+1,A6,c6,_,Pd,by rw[O9.o],Ol,Om,NS,NU,NT,NY,Oo⟩
           case measure=>exact Oq.o
          ·go_simp
           (go_at_call 118;refine PZ.mono ?_);rintro e w4 ⟨A4,c4,rfl,OU,OP⟩;have Oc:av wk w4:=((Below.refl wk.heap.size wk).drew).trans OP;have x1:=(Oc.cell (p:=⟨r,1,none⟩) Nv.1).trans R.2.1;have NQ:=ah Oc;have OW:=ah (PL.o u PV _ PX A4 m4 c4 w4 Pm PO OU);clear OP Oc OU;refine Th N ?_ (fun f=>?_)
           ·trivial
           clear N K hHeld;have hHeld:=f;clear f;refine wpAnyH_ready (rs:=[1,6]) (by kernel_rfl) (by simp) ?_;refine AllReadyH.cons (o:=⟨some 125,_,_,_,_,_⟩) rfl (fun K N=>?_) (AllReadyH.cons (o:=⟨some 130,_,_,_,_,_⟩) rfl (fun K N=>?_) (AllReadyH.nil))
           ·go_simp
            refine Th N ?_ (fun f=>?_)
            ·trivial
            clear N K hHeld;have hHeld:=f;clear f;refine Tc 6 (fun K N=>?_);go_simp;(go_at_call 112;refine OW.mono ?_);rintro e w5 ⟨NG,NM,NJ,NH,NN,NK,rfl,Ob,Ow⟩;have g:av wk w5:=NQ.trans (Ow.mono NQ.size);have NV:=Oh.later g;have NZ:=OY.keep g.size (fun b _ O=>g.block b O);have O1:aW w5 (fun b=>r+1≤b∧(Value.slice Ax j cx).ownBlock≠some b) u ⟨NG,NM,NJ⟩ ⟨NH,NN,NK⟩:=aW.mono (fun b Y _=>⟨by have h1:=NI.o;have h2:=NQ.size;have h3:w4.heap.size≤b:=Y;omega,fun e=>by have h1:=(Oh.own.row.lt b e).2;have h2:=NQ.size;have h3:w4.heap.size≤b:=Y;omega⟩) _ Ob;obtain⟨A6,c6,w6,r6,NW,N8,X⟩:=bK.vI (k:=(y,⟨NG,NM,NJ⟩,⟨NH,NN,NK⟩)) Tryz.underlying33 qR rfl (by omega) NV w5.heap.size rfl (aN NI g.size) O1 (by omega) #[.string y,.slice NG NM NJ,.slice NH NN NK] rfl
            have Oa:=N8.size;have N7:r<w5.heap.size:=cO Nv.1 g.size;have Oy:q<w5.heap.size:=cO Nw.1 g.size
            have Og:∀ x,x≤r→(Value.slice Ax j cx).ownBlock≠some x:=fun x hx e=>by have h1:=(Oh.own.row.lt x e).1;omega
            have t0:=(g.cell (p:=⟨r,1,none⟩) Nv.1).trans s1;have K6:∀ x,x≤r→x<w5.heap.size→∀ j,w6.cell? ⟨x,j,none⟩=w5.cell? ⟨x,j,none⟩:=fun x hx hl j=>bU (a:=⟨x,j,none⟩) (X x (Og x hx) hl).1;have F6:∀ x,x≤r→x<w5.heap.size→∀ j,w6.frozen? ⟨x,j,none⟩=w5.frozen? ⟨x,j,none⟩:=fun x hx hl j=>DZ (a:=⟨x,j,none⟩) (X x (Og x hx) hl).1;have u0:=(K6 r (bG) N7 1).trans t0;have mr:=(F6 r (bG) N7 1).trans ((Nv.later g).2 1);obtain⟨Q,J⟩:∃ W,W=w6.setCell ⟨r,1,none⟩ (.slice A6 (j+1) c6):=⟨_,rfl⟩
            have Oe:∀ x,x≠r→Q.heap[x]?=w6.heap[x]?:=fun x hx=>by rw[J];exact cZ _ ⟨r,1,none⟩ _ x (fun e=>hx e)
            have v0:Q.cell? ⟨r,1,none⟩=some (.slice A6 (j+1) c6):=by rw[J];go_simp
            have v1:Q.cell? ⟨r,0,none⟩=some (.slice A3 i k3):=by
             rw[J,oV w6 ⟨r,1,none⟩ ⟨r,0,none⟩ _ (fun e=>by injection e with _ e;cases e),K6 r (bG) N7 0];exact (g.cell (p:=⟨r,0,none⟩) Nv.1).trans R.1
            have v2:∀ x j,x≠r→x≤r→x<wk.heap.size→Q.cell? ⟨x,j,none⟩=wk.cell? ⟨x,j,none⟩:=fun x j hx hl O=>((bU (a:=⟨x,j,none⟩) (Oe x hx)).trans (K6 x hl (cO O g.size) j)).trans (g.cell (p:=⟨x,j,none⟩) O)
            have NS:ai (Q.cell? ⟨r,0,none⟩=some (.slice A3 i k3)∧Q.cell? ⟨r,1,none⟩=some (.slice A6 (j+1) c6)∧Q.cell? ⟨q,0,none⟩=some (.slice none 0 0)∧Q.cell? ⟨q,1,none⟩=some (.slice none 0 0)):=
             ⟨v1,v0,(v2 q 0 OE (by have:=NE.o;omega) Nw.1).trans R.2.2.1,(v2 q 1 OE (by have:=NE.o;omega) Nw.1).trans R.2.2.2⟩
            have O0:Q.heap.size=w6.heap.size:=by rw[J];simp[World.setCell]
            have Oz:w5.heap.size≤w6.heap.size:=Oa
            have Ol:ai (bK Q (r+1) 134 A6 (j+1) c6 (ks.take (j+1)) (kr++[(y,⟨NG,NM,NJ⟩,⟨NH,NN,NK⟩)])):=by
             unfold ai;rw[OI.o];exact NW.M5 (m_ r) J
            have Om:ai (RO Q (fun b=>r+1≤b∧(Value.slice A6 (j+1) c6).ownBlock≠some b) 4 A3 i k3 (bV es)):=
             ((NZ.mono (ok':=fun b=>r+1≤b∧(Value.slice Ax j cx).ownBlock≠some b∧(Value.slice A6 (j+1) c6).ownBlock≠some b) (fun b Y O=>⟨Y.1,Y.2,(X b Y.2 O).2⟩)).keep (by omega) (fun b Y O=>(Oe b (by omega)).trans (X b Y.2.1 O).1)).mono (fun b Y _=>⟨Y.1,Y.2.2⟩)
            have NU:ai (aA r Q):=by
             unfold ai;refine⟨by omega,fun j=>?_⟩;rw[J,yV];exact (F6 r (bG) N7 j).trans ((Nv.later g).2 j)
            have NT:ai (aA q Q):=by
             unfold ai;refine⟨by omega,fun j=>?_⟩;rw[J,yV];exact (F6 q (by have:=NE.o;omega) Oy j).trans ((Nw.later g).2 j)
            have NY:ai (r+1≤Q.heap.size):=by have:=NI.o;have:=g.size;unfold ai;omega
            have Oo:ai (av w Q):=by
             unfold ai;rw[J];exact ((HB.trans (g.mono HB.size)).trans (N8.mono (by omega))).setCell (p:=⟨r,1,none⟩) Pe _
            have Oq:ai (nk+1-dS (Q.cell? ⟨r,1,none⟩)<nk+1-dS (wk.cell? ⟨r,1,none⟩)):=by
             unfold ai;rw[v0,R.o.2.1];show nk+1-(j+1)<nk+1-j;omega
            have NA:=ah r6;have Ou:=ah J;clear Ob Ow g NV NZ O1 r6 NW N8 X Og K6 F6 J Oe v0 v1 v2 O0 Oz Oa;refine Th N ?_ (fun f=>?_)
            ·trivial
            clear N K hHeld;have hHeld:=f;clear f;refine Tk 7 131 ?_;refine Tc 8 (fun K N=>?_);go_simp;refine Th N ?_ (fun f=>?_)
            ·trivial
            clear N K hHeld;have hHeld:=f;clear f;refine Tc 9 (fun K N=>?_);refine bg _ _ _ rfl rfl rfl NA ?_;refine Th N ?_ (fun f=>?_)
            ·trivial
            clear N K hHeld;have hHeld:=f;clear f;refine Tk 10 134 ?_;refine Tc 11 (fun K N=>?_);go_simp;refine Th N ?_ (fun f=>?_)
            ·trivial
            clear N K hHeld;have hHeld:=f;clear f;refine Td ?_;clear t0 u0 mr NA hHeld x1 s1;go_wp2_with fail;rw[← Ou.o];go_roundw
            case rel=>exact⟨j+1,A6,c6,_,Pd,by rw[O9.o],Ol,Om,NS,NU,NT,NY,Oo⟩
            case measure=>exact Oq.o
           ·go_simp
            (go_at_call 112;refine OW.mono ?_);rintro e w5 ⟨NG,NM,NJ,NH,NN,NK,rfl,Ob,Ow⟩;have g:av wk w5:=NQ.trans (Ow.mono NQ.size);have NV:=Oh.later g;have NZ:=OY.keep g.size (fun b _ O=>g.block b O);have O1:aW w5 (fun b=>r+1≤b∧(Value.slice Ax j cx).ownBlock≠some b) u ⟨NG,NM,NJ⟩ ⟨NH,NN,NK⟩:=aW.mono (fun b Y _=>⟨by have h1:=NI.o;have h2:=NQ.size;have h3:w4.heap.size≤b:=Y;omega,fun e=>by have h1:=(Oh.own.row.lt b e).2;have h2:=NQ.size;have h3:w4.heap.size≤b:=Y;omega⟩) _ Ob;obtain⟨A6,c6,w6,r6,NW,N8,X⟩:=bK.vI (k:=(y,⟨NG,NM,NJ⟩,⟨NH,NN,NK⟩)) Tryz.underlying33 qR rfl (by omega) NV w5.heap.size rfl (aN NI g.size) O1 (by omega) #[.string y,.slice NG NM NJ,.slice NH NN NK] rfl
            have Oa:=N8.size;have N7:r<w5.heap.size:=cO Nv.1 g.size;have Oy:q<w5.heap.size:=cO Nw.1 g.size
            have Og:∀ x,x≤r→(Value.slice Ax j cx).ownBlock≠some x:=fun x hx e=>by have h1:=(Oh.own.row.lt x e).1;omega
            have t0:=(g.cell (p:=⟨r,1,none⟩) Nv.1).trans s1;have K6:∀ x,x≤r→x<w5.heap.size→∀ j,w6.cell? ⟨x,j,none⟩=w5.cell? ⟨x,j,none⟩:=fun x hx hl j=>bU (a:=⟨x,j,none⟩) (X x (Og x hx) hl).1;have F6:∀ x,x≤r→x<w5.heap.size→∀ j,w6.frozen? ⟨x,j,none⟩=w5.frozen? ⟨x,j,none⟩:=fun x hx hl j=>DZ (a:=⟨x,j,none⟩) (X x (Og x hx) hl).1;have u0:=(K6 r (bG) N7 1).trans t0;have mr:=(F6 r (bG) N7 1).trans ((Nv.later g).2 1);obtain⟨Q,J⟩:∃ W,W=w6.setCell ⟨r,1,none⟩ (.slice A6 (j+1) c6):=⟨_,rfl⟩
            have Oe:∀ x,x≠r→Q.heap[x]?=w6.heap[x]?:=fun x hx=>by rw[J];exact cZ _ ⟨r,1,none⟩ _ x (fun e=>hx e)
            have v0:Q.cell? ⟨r,1,none⟩=some (.slice A6 (j+1) c6):=by rw[J];go_simp
            have v1:Q.cell? ⟨r,0,none⟩=some (.slice A3 i k3):=by
             rw[J,oV w6 ⟨r,1,none⟩ ⟨r,0,none⟩ _ (fun e=>by injection e with _ e;cases e),K6 r (bG) N7 0];exact (g.cell (p:=⟨r,0,none⟩) Nv.1).trans R.1
            have v2:∀ x j,x≠r→x≤r→x<wk.heap.size→Q.cell? ⟨x,j,none⟩=wk.cell? ⟨x,j,none⟩:=fun x j hx hl O=>((bU (a:=⟨x,j,none⟩) (Oe x hx)).trans (K6 x hl (cO O g.size) j)).trans (g.cell (p:=⟨x,j,none⟩) O)
            have NS:ai (Q.cell? ⟨r,0,none⟩=some (.slice A3 i k3)∧Q.cell? ⟨r,1,none⟩=some (.slice A6 (j+1) c6)∧Q.cell? ⟨q,0,none⟩=some (.slice none 0 0)∧Q.cell? ⟨q,1,none⟩=some (.slice none 0 0)):=
             ⟨v1,v0,(v2 q 0 OE (by have:=NE.o;omega) Nw.1).trans R.2.2.1,(v2 q 1 OE (by have:=NE.o;omega) Nw.1).trans R.2.2.2⟩
            have O0:Q.heap.size=w6.heap.size:=by rw[J];simp[World.setCell]
            have Oz:w5.heap.size≤w6.heap.size:=Oa
            have Ol:ai (bK Q (r+1) 134 A6 (j+1) c6 (ks.take (j+1)) (kr++[(y,⟨NG,NM,NJ⟩,⟨NH,NN,NK⟩)])):=by
             unfold ai;rw[OI.o];exact NW.M5 (m_ r) J
            have Om:ai (RO Q (fun b=>r+1≤b∧(Value.slice A6 (j+1) c6).ownBlock≠some b) 4 A3 i k3 (bV es)):=
             ((NZ.mono (ok':=fun b=>r+1≤b∧(Value.slice Ax j cx).ownBlock≠some b∧(Value.slice A6 (j+1) c6).ownBlock≠some b) (fun b Y O=>⟨Y.1,Y.2,(X b Y.2 O).2⟩)).keep (by omega) (fun b Y O=>(Oe b (by omega)).trans (X b Y.2.1 O).1)).mono (fun b Y _=>⟨Y.1,Y.2.2⟩)
            have NU:ai (aA r Q):=by
             unfold ai;refine⟨by omega,fun j=>?_⟩;rw[J,yV];exact (F6 r (bG) N7 j).trans ((Nv.later g).2 j)
            have NT:ai (aA q Q):=by
             unfold ai;refine⟨by omega,fun j=>?_⟩;rw[J,yV];exact (F6 q (by have:=NE.o;omega) Oy j).trans ((Nw.later g).2 j)
            have NY:ai (r+1≤Q.heap.size):=by have:=NI.o;have:=g.size;unfold ai;omega
            have Oo:ai (av w Q):=by
             unfold ai;rw[J];exact ((HB.trans (g.mono HB.size)).trans (N8.mono (by omega))).setCell (p:=⟨r,1,none⟩) Pe _
            have Oq:ai (nk+1-dS (Q.cell? ⟨r,1,none⟩)<nk+1-dS (wk.cell? ⟨r,1,none⟩)):=by
             unfold ai;rw[v0,R.o.2.1];show nk+1-(j+1)<nk+1-j;omega
            have NA:=ah r6;have Ou:=ah J;clear Ob Ow g NV NZ O1 r6 NW N8 X Og K6 F6 J Oe v0 v1 v2 O0 Oz Oa;refine Th N ?_ (fun f=>?_)
            ·trivial
            clear N K hHeld;have hHeld:=f;clear f;refine Tk 7 131 ?_;refine wpAnyH_ready (rs:=[1,8]) (by kernel_rfl) (by simp) ?_;refine AllReadyH.cons (o:=⟨some 125,_,_,_,_,_⟩) rfl (fun K N=>?_) (AllReadyH.cons (o:=⟨some 132,_,_,_,_,_⟩) rfl (fun K N=>?_) (AllReadyH.nil))
            ·go_simp
             refine Th N ?_ (fun f=>?_)
             ·trivial
             clear N K hHeld;have hHeld:=f;clear f;refine Tc 8 (fun K N=>?_);go_simp;refine Th N ?_ (fun f=>?_)
             ·trivial
             clear N K hHeld;have hHeld:=f;clear f;refine Tc 9 (fun K N=>?_);refine bg _ _ _ rfl rfl rfl NA ?_;refine Th N ?_ (fun f=>?_)
             ·trivial
             clear N K hHeld;have hHeld:=f;clear f;refine Tk 10 134 ?_;refine Tc 11 (fun K N=>?_);go_simp;refine Th N ?_ (fun f=>?_)
             ·trivial
             clear N K hHeld;have hHeld:=f;clear f;refine Td ?_;clear t0 u0 mr NA hHeld x1 s1;go_wp2_with fail;rw[← Ou.o];go_roundw
             case rel=>exact⟨j+1,A6,c6,_,Pd,by rw[O9.o],Ol,Om,NS,NU,NT,NY,Oo⟩
             case measure=>exact Oq.o
            ·go_simp
             refine Th N ?_ (fun f=>?_)
             ·trivial
             clear N K hHeld;have hHeld:=f;clear f;refine Tc 1 (fun K N=>?_);go_simp;refine Th N ?_ (fun f=>?_)
             ·trivial
             clear N K hHeld;have hHeld:=f;clear f;refine Tc 9 (fun K N=>?_);refine bg _ _ _ rfl rfl rfl NA ?_;refine Th N ?_ (fun f=>?_)
             ·trivial
             clear N K hHeld;have hHeld:=f;clear f;refine Tk 10 134 ?_;refine Tc 11 (fun K N=>?_);go_simp;refine Th N ?_ (fun f=>?_)
             ·trivial
             clear N K hHeld;have hHeld:=f;clear f;refine Td ?_;clear t0 u0 mr NA hHeld x1 s1;go_wp2_with fail;rw[← Ou.o];go_roundw
             case rel=>exact⟨j+1,A6,c6,_,Pd,by rw[O9.o],Ol,Om,NS,NU,NT,NY,Oo⟩
             case measure=>exact Oq.o
     | some y=>
      have OQ:i<es.length:=by
       by_cases h:i<es.length
       ·exact h
       ·rw[List.getElem?_eq_none (by omega)]at G;cases G
      have Ql:es.take (i+1)=es.take i++[y]:=by
       rw[vw OQ]at G;injection G with G;rw[dZ OQ,G]
      have Qt:=ah Ql
      have Qz:i+1≤ne:=by have:=O3.o;omega
      have Pp:(es.take i).length=i:=by rw[l7];omega
      obtain⟨ya,yn,yt,yv⟩:=y;have p0:wr.cell? ⟨p,0,none⟩=some (.int .i64 ya):=H.1;have p1:wr.cell? ⟨p,1,none⟩=some (.int .i64 yn):=H.2.1;have p2:wr.cell? ⟨p,2,none⟩=some (.string yt):=H.2.2.1;have p3:wr.cell? ⟨p,3,none⟩=some (.int .i64 yv):=H.2.2.2;obtain⟨A6,c6,w6,r6,PS,N8⟩:=nV wr (r+1) wr.heap.size rfl (aG HO M) Pp (aN NI M.size) (⟨ya,yn,yt,yv⟩:E) (by omega);dsimp only at r6;have Pz:wr.heap.size≤w6.heap.size:=N8.size;have s1:=(M.cell (p:=⟨r,1,none⟩) Nv.1).trans R.2.1;have s2:=(M.cell (p:=⟨q,0,none⟩) Nw.1).trans R.2.2.1;have s3:=(M.cell (p:=⟨q,1,none⟩) Nw.1).trans R.2.2.2;have u0:=(N8.cell (p:=⟨r,0,none⟩) (m_ r)).trans s0;have u1:=(N8.cell (p:=⟨r,1,none⟩) (m_ r)).trans s1
      have u2:=(N8.cell (p:=⟨q,0,none⟩) (by show q<r+1;have:=NE.o;omega)).trans s2;have u3:=(N8.cell (p:=⟨q,1,none⟩) (by show q<r+1;have:=NE.o;omega)).trans s3;have OH:=(Nv.later M).low N8 (m_ r) Pz;have Ph:=(Nw.later M).low N8 (by have:=NE.o;omega) Pz;have mr:=OH.2 0;obtain⟨Q,J⟩:∃ W,W=w6.setCell ⟨r,0,none⟩ (.slice A6 (i+1) c6):=⟨_,rfl⟩
      have Qq:ai (Own Q (r+1) 97 4 A6 (i+1) c6 (bV (es.take (i+1)))):=ah (by rw[Qt.o,J];exact PS.aT (a:=⟨r,0,none⟩) (m_ r) _)
      have v0:Q.cell? ⟨r,0,none⟩=some (.slice A6 (i+1) c6):=by rw[J];go_simp
      have v1:Q.cell? ⟨r,1,none⟩=some (.slice none 0 0):=by rw[J];go_simp
      have v2:Q.cell? ⟨q,0,none⟩=some (.slice none 0 0):=by rw[J];go_simp
      have v3:Q.cell? ⟨q,1,none⟩=some (.slice none 0 0):=by rw[J];go_simp
      have NS:=ah (And.intro v0 (And.intro v1 (And.intro v2 v3)))
      have NU:ai (aA r Q):=ah (by rw[J];exact OH.set _ _)
      have NT:ai (aA q Q):=ah (by rw[J];exact Ph.set _ _)
      have NY:ai (r+1≤Q.heap.size):=ah (by rw[J];have h1:=NI.o;have h2:=M.size;simp[World.setCell];omega)
      have Oo:ai (av w Q):=by
       unfold ai;rw[J];exact ((HB.trans (M.mono HB.size)).trans (N8.mono (by omega))).setCell (p:=⟨r,0,none⟩) Pe _
      have NA:=ah r6;have Ou:=ah J
      have Oq:ai (ne+1-dS (Q.cell? ⟨r,0,none⟩)<ne+1-dS (wo.cell? ⟨r,0,none⟩)):=by
       unfold ai;rw[v0,R.o.1];show ne+1-(i+1)<ne+1-i;omega
      clear G Ql OQ Pp r6 PS N8 Pz s1 s2 s3 u1 u2 u3 OH Ph J v0 v1 v2 v3;go_wp2_with (at_builtin;refine Lib.wpList_append_run _ rfl _ _ _ _ rfl _ _ rfl rfl _ _ NA ?_);rw[← Ou.o];go_roundw
      case rel=>exact⟨i+1,A6,c6,Qz,Qq,NS,NU,NT,NY,Oo⟩
      case measure=>exact Oq.o
theorem GL (d:Nat) (t:T) (g:au d t) (A:Option Addr) (n c:Nat) (w:World) (f:nodes t≤100000) (a:mh w w.heap.size A n c (leaves t)) :
  Calls Tryz.prog 112 #[.slice A n c] w fun e w'=>∃ Ae ne ce Ak nk ck,e = .returned (.agg #[.slice Ae ne ce,.slice Ak nk ck])∧aW w' (fun b=>w.heap.size≤b) t ⟨Ae,ne,ce⟩ ⟨Ak,nk,ck⟩∧av w w':=
 BR d t g (leaves t) (fun _=>Iff.rfl) A n c w (by have h1:=a.1;have h2:=dw t;omega) f a
end Tr
end Go.Proofs.YtgeafpaognhokaaGreat
