/- Trees: built of leaves: the document's. -/
import Derived.Test.YtgeafpaognhokaaGreatG00
import Derived.Test.YtgeafpaognhokaaGreatG20
namespace Go.Proofs.YtgeafpaognhokaaGreat
open ChangeShapes WideShapes ChangeAt RowKit
namespace Tr
open Sp Rw
theorem Io {b a:List Lf} (c:∀ x,x∈b↔x∈a) (x:E):x∈fQ b↔x∈fQ a:=by
 unfold fQ;simp only[List.mem_filterMap,c]
theorem zH {b a:List Lf} (c:∀ x,x∈b↔x∈a) (x:ByteArray):x∈iD b↔x∈iD a:=by
 unfold iD;simp only[List.mem_filterMap,c]
theorem I9 {b a:List Lf} (c:∀ x,x∈b↔x∈a) (y:ByteArray) (x:Lf):x∈under b y↔x∈under a y:=by
 unfold under;simp only[List.mem_filterMap,c]
theorem GL {d:Nat} {es:List E} {ks:List (ByteArray×T)} {a:List Lf} (b:∀ x,x∈a↔x∈leaves (.mk es ks)) (h:au (d+1) (.mk es ks)) {i:Nat} (hi:i≤es.length) {r:Option E} (c:bq mX (fQ a) (pF mX es i) r):r=es[i]?:=
 xw sP (fun _ _ _=>Bf) (fun x=>by rw[Io b,tH]) h.2.1 hi c
theorem GN {d:Nat} {es:List E} {ks:List (ByteArray×T)} {a:List Lf} (c:∀ x,x∈a↔x∈leaves (.mk es ks)) (h:au (d+1) (.mk es ks)) {j:Nat} (b:j≤ks.length) {r:Option ByteArray} (e:bq cK (iD a) (pF cK (ks.map fun x=>x.1) j) r):r=(ks.map fun x=>x.1)[j]?:=
 xw aQ.irr (fun _ _ _=>aQ.tr _ _ _) (fun x=>by rw[zH c,sG h]) (List.pairwise_map.2 h.2.2.1) (by rw[eP];exact b) e
set_option maxRecDepth 100000 in
set_option maxHeartbeats 4000000 in
theorem BU:∀ (d:Nat) (t:T),au d t→∀ (ls:List Lf),(∀ x,x∈ls↔x∈leaves t)→∀ (A:Option Addr) (n c:Nat) (w:World),n≤100000→nodes t≤100000→mh w w.heap.size A n c ls →
  Calls Tryz.prog 112 #[.slice A n c] w fun e w'=>∃ Ae ne ce Ak nk ck,e = .returned (.agg #[.slice Ae ne ce,.slice Ak nk ck])∧aX w' (fun b=>w.heap.size≤b) t ⟨Ae,ne,ce⟩ ⟨Ak,nk,ck⟩∧av w w':=by
 intro d
 induction d with
 | zero=>intro t ht;exact ht.elim
 | succ d ih=>
  intro t ht ls hm A n c w Qe hn hl;obtain⟨es,ks⟩:=t;have HT:=ah ht;have HN:=ah hn;have PI:=ah ih;have HL:=ah hl;have OO:=ah hl.1;have HM:=ah hm;obtain⟨ne,Qf⟩:∃ z,z=es.length:=⟨_,rfl⟩;obtain⟨nk,Qg⟩:∃ z,z=ks.length:=⟨_,rfl⟩;have O5:=ah Qf;have OM:=ah Qg
  have hne5:ne≤100000:=by have:=bE es ks;omega
  have hnk5:nk≤100000:=by have:=bE es ks;omega
  clear ht hn ih hl Qf Qg hm;obtain⟨q,hq⟩:∃ q,q=w.heap.size:=⟨_,rfl⟩;obtain⟨W1,O7⟩:∃ W,W=w.alloc (.cells #[.slice none 0 0,.slice none 0 0] 35):=⟨_,rfl⟩;obtain⟨r,hr⟩:∃ r,r=W1.heap.size:=⟨_,rfl⟩;obtain⟨W2,O8⟩:∃ W,W=W1.alloc (.cells #[.slice none 0 0,.slice none 0 0] 35):=⟨_,rfl⟩
  have OQ:av w W1:=by rw[O7];exact Dt.ay _ _ _
  have Ox:av W1 W2:=by rw[O8];exact Dt.ay _ _ _
  have Qz:W1.heap.size=q+1:=by rw[O7,hq];simp
  have Q0:W2.heap.size=r+1:=by rw[O8,hr];simp
  have f0:W1.cell? ⟨q,0,none⟩=some (.slice none 0 0):=by rw[O7,hq];go_simp
  have f1:W1.cell? ⟨q,1,none⟩=some (.slice none 0 0):=by rw[O7,hq];go_simp
  have q0:=(Ox.cell (p:=⟨q,0,none⟩) (by show q<_;omega)).trans f0;have q1:=(Ox.cell (p:=⟨q,1,none⟩) (by show q<_;omega)).trans f1
  have r0:W2.cell? ⟨r,0,none⟩=some (.slice none 0 0):=by rw[O8,hr];go_simp
  have r1:W2.cell? ⟨r,1,none⟩=some (.slice none 0 0):=by rw[O8,hr];go_simp
  have PE:ai (aA q W2):=(show aA q W1 from⟨by omega,fun j=>by rw[O7,hq];go_simp⟩).later Ox;have PG:ai (aA r W2):=⟨by omega,fun j=>by rw[O8,hr];go_simp⟩;have HY:=ah (And.intro r0 (And.intro r1 (And.intro q0 q1)));have Qm:=ah (OQ.trans (Ox.mono OQ.size))
  have NG:ai (r=q+1):=FL
  have PU:ai (r+1≤W2.heap.size):=FL
  have HQ:=ah hq;have Qt:=ah O7;have Qu:=ah O8
  have OH:q≠r:=by omega
  have hqr2:¬r=q:=by omega
  have Ql:w.heap.size≤q:=by omega
  have Pg:w.heap.size≤r:=by omega
  clear hq O7 hr O8 OQ Ox Qz Q0 f0 f1 q0 q1 r0 r1;go_enter Tryz.func112,Tryz.ntmps112;go_wp2_with fail;rw[← HQ.o,← Qt.o,← NG.o,← Qu.o]
  go_loopw [] (fun wr=>∃ (i:Nat) (A3:Option Addr) (k3:Nat),i≤ne∧ai (Own wr (r+1) 97 4 A3 i k3 (bV (es.take i)))∧ai (wr.cell? ⟨r,0,none⟩=some (.slice A3 i k3)∧wr.cell? ⟨r,1,none⟩=some (.slice none 0 0)∧wr.cell? ⟨q,0,none⟩=some (.slice none 0 0)∧wr.cell? ⟨q,1,none⟩=some (.slice none 0 0))∧ai (aA r wr)∧ai (aA q wr)∧ai (r+1≤wr.heap.size)∧ai (av w wr)) (fun wr=>ne+1-dS (wr.cell? ⟨r,0,none⟩))
  case atStart=>exact⟨0,none,0,by omega,⟨iy _ _ _ _,by simp[bV]⟩,HY,PG,PE,PU,Qm⟩
  case round=>
   obtain⟨i,A3,k3,hi,HO,R,Ny,Nz,NK,HB⟩:=hrel;obtain⟨wo,Q6⟩:∃ W,W=wr:=⟨_,rfl⟩;subst Q6;obtain⟨p,Wp,hp,Pd,Pw,-,-,-,-⟩:=zi wo (.int .i64 0) (.int .i64 0) (.string ⟨#[]⟩) (.int .i64 0) 97
   have Qp:ai (Wp.cell? ⟨p,0,none⟩=some (.int .i64 (h_ none).a)∧Wp.cell? ⟨p,1,none⟩=some (.int .i64 (h_ none).n)∧Wp.cell? ⟨p,2,none⟩=some (.string (h_ none).s)∧Wp.cell? ⟨p,3,none⟩=some (.int .i64 (h_ none).v)):=by
    unfold ai;rw[Pd,hp];exact⟨by go_simp;rfl,by go_simp;rfl,by go_simp;rfl,by go_simp;rfl⟩
   have F:=p_ hp Pd
   have hrp:r<p:=by have:=Ny.1;omega
   have hqp:q<p:=by have:=Nz.1;omega
   have hrp2:¬r=p:=by omega
   have hpr2:¬p=r:=by omega
   have P_:=ah Pw;have Ov:=ah hp;have PX:=ah Pd;clear hp Pd Pw;go_wp2_with fail;rw[← Ov.o,← PX.o]
   go_loopw [5,13] (fun s z wr=>∃ (k:Nat) (x:Option E),k≤n∧z = .int .i64 k∧s = .bool x.isSome∧ai (bq mX (fQ (ls.take k)) (pF mX es i) x)∧ai (wr.cell? ⟨p,0,none⟩=some (.int .i64 (h_ x).a)∧wr.cell? ⟨p,1,none⟩=some (.int .i64 (h_ x).n)∧wr.cell? ⟨p,2,none⟩=some (.string (h_ x).s)∧wr.cell? ⟨p,3,none⟩=some (.int .i64 (h_ x).v))∧ai (aA p wr)∧ai (av wo wr)) (fun _ z _=>n-(intOf z).toNat)
   case atStart=>exact⟨0,none,by omega,rfl,rfl,by unfold ai;intro y hy;simp[fQ]at hy,Qp,F,P_⟩
   case round=>
    obtain⟨k,x,hk,rfl,rfl,NA,H,F,M⟩:=hrel;have OZ:=ah ((M.cell (p:=⟨r,0,none⟩) Ny.1).trans R.1)
    by_cases O:k<n
    ·have OV:k<ls.length:=by rw[OO.o];exact O
     obtain⟨b,o,rfl,Y,hc⟩:=mh.at_ HL (by omega);obtain⟨⟨Ap,np,cp⟩,c0,c1,c2,c3,c4,NH,_⟩:=hc k OV;dsimp only at c0 NH;have OD:=HB.trans (M.mono HB.size);have c0:=(OD.cell (p:=⟨b,o+k*5,none⟩) Y).trans c0;have c1:=(OD.cell (p:=⟨b,o+k*5+1,none⟩) Y).trans c1;have c2:=(OD.cell (p:=⟨b,o+k*5+2,none⟩) Y).trans c2;have c3:=(OD.cell (p:=⟨b,o+k*5+3,none⟩) Y).trans c3;have c4:=(OD.cell (p:=⟨b,o+k*5+4,none⟩) Y).trans c4;have NF:=Fv OV;obtain⟨lf,OX⟩:∃ z,z=ls[k]:=⟨_,rfl⟩;rw[← OX]at c1 c2 c3 c4 NH NF;obtain⟨pa,U,V,et,ev⟩:=lf;dsimp only at c1 c2 c3 c4 NH
     have Pw:b<p:=by have h1:=Ov.o;have h2:=HB.size;omega
     have hbp2:¬b=p:=by omega
     have hpb2:¬p=b:=by omega
     clear hc OX OD
     cases pa with
     | cons k0 pa=>
      have Pt:0<np:=by rw[← NH];exact Nat.succ_pos _
      have L:ai (bq mX (fQ (ls.take (k+1))) (pF mX es i) x):=ah (by rw[NF];have h1:fQ [(k0::pa,(⟨U,V,et,ev⟩:E))]=[]:=rfl;rw[h1,kR];exact NA.o)
      have s0:=OZ.o
      have fz:((np:Int)==0)=false:=by rw[gP];omega
      have l:ai (Kept [(⟨b,o+k*5,none⟩,.slice Ap np cp)] wr wr.drew):=by exact ((Kept.nil wr).af c0).drew
      clear NF NH;go_wp2_with fail;refine Rk (S:=fun W=>W.cell? ⟨b,o+k*5,none⟩=some (.slice Ap np cp)) (fun hHeld=>?_);refine T4 0 19 1 20 2 21 3 22 ?_;refine T4 4 23 5 24 6 25 7 26 ?_;refine U4 8 27 9 28 10 29 11 30 ?_;refine U4 12 31 13 32 14 33 15 34 ?_;refine U4 16 35 17 36 18 37 19 38 ?_;refine U4 20 39 21 40 22 41 23 42 ?_;refine U2 24 43 25 44 ?_;refine T2 26 45 27 46 ?_;refine U4 28 47 29 48 30 49 31 50 ?_;refine U4 32 51 33 52 34 53 35 54 ?_;refine Tn 36 55 ?_
      refine U4 37 56 38 57 39 58 40 59 ?_;refine Tk 41 60 ?_;refine Td ?_;have B:=l.below;have Z:=ah (M.trans (B.mono M.size));have C:=ah (F.later B);have D:=ah (And.intro ((B.cell (p:=⟨p,0,none⟩) F.1).trans H.1) (And.intro ((B.cell (p:=⟨p,1,none⟩) F.1).trans H.2.1) (And.intro ((B.cell (p:=⟨p,2,none⟩) F.1).trans H.2.2.1) ((B.cell (p:=⟨p,3,none⟩) F.1).trans H.2.2.2))));clear B;clear hHeld;go_wp2_with fail;go_roundw
      case rel=>exact⟨k+1,x,by omega,by go_num,rfl,L,D,C,Z⟩
      case measure=>simp[intOf];omega
     | nil=>
      have P5:np=0:=by rw[← NH];rfl
      subst P5;have NT:fQ (ls.take (k+1))=fQ (ls.take k)++[(⟨U,V,et,ev⟩:E)]:=NF;have N8:=ah NT;clear NF NT NH;have s0:=OZ.o;have p0:=H.1;have p1:=H.2.1;have p2:=H.2.2.1;have p3:=H.2.2.2;have m0:=F.2 0;have m1:=F.2 1;have m2:=F.2 2;have m3:=F.2 3
      by_cases Qw:i=0
      ·subst Qw
       have NR:ai (pF mX es 0 (⟨U,V,et,ev⟩:E)):=fun h _=>absurd h (by omega)
       cases x with
       | none=>
        have l:ai (Kept [(⟨b,o+k*5,none⟩,.slice Ap 0 cp),(⟨b,o+k*5+1,none⟩,.int .i64 U),(⟨b,o+k*5+2,none⟩,.int .i64 V),(⟨b,o+k*5+3,none⟩,.string et),(⟨b,o+k*5+4,none⟩,.int .i64 ev)] wr wr.drew):=by exact ((((((Kept.nil wr).af c4).af c3).af c2).af c1).af c0).drew
        go_wp2_with fail;refine Rk (S:=fun W=>W.cell? ⟨b,o+k*5,none⟩=some (.slice Ap 0 cp)∧W.cell? ⟨b,o+k*5+1,none⟩=some (.int .i64 U)∧W.cell? ⟨b,o+k*5+2,none⟩=some (.int .i64 V)∧W.cell? ⟨b,o+k*5+3,none⟩=some (.string et)∧W.cell? ⟨b,o+k*5+4,none⟩=some (.int .i64 ev)) (fun hHeld=>?_);refine T4 0 19 1 20 2 21 3 22 ?_;refine T4 4 23 5 24 6 25 7 26 ?_;refine T3 8 27 9 28 10 29 ?_;refine U4 11 30 12 31 13 32 14 33 ?_;refine U4 15 34 16 35 17 36 18 37 ?_;refine U4 19 38 20 39 21 40 22 41 ?_;refine U2 23 42 24 43 ?_;refine Tk 25 44 ?_
        refine T4 26 45 27 46 28 47 29 48 ?_;refine Tk 30 49 ?_;refine U4 31 50 32 51 33 52 34 53 ?_;refine U4 35 54 36 55 37 56 38 57 ?_;refine Tn 39 58 ?_;refine T2 40 59 41 60 ?_;refine Td ?_;have B:=l.below;have Z:=ah (M.trans (B.mono M.size));have C:=ah (F.later B);have D:=ah (And.intro ((B.cell (p:=⟨p,0,none⟩) F.1).trans H.1) (And.intro ((B.cell (p:=⟨p,1,none⟩) F.1).trans H.2.1) (And.intro ((B.cell (p:=⟨p,2,none⟩) F.1).trans H.2.2.1) ((B.cell (p:=⟨p,3,none⟩) F.1).trans H.2.2.2))));clear B;have e1:=l.c1;have e2:=l.c2;have e3:=l.c3;have e4:=l.c4
        have y0:=D.1;have y1:=D.2.1;have y2:=D.2.2.1;have y3:=D.2.2.2;have m0:=C.2 0;have m1:=C.2 1;have m2:=C.2 2;have m3:=C.2 3
        have L:ai (bq mX (fQ (ls.take (k+1))) (pF mX es 0) (some (⟨U,V,et,ev⟩:E))):=ah (by rw[N8.o];exact nP sP NR NA)
        obtain⟨wv,O_⟩:∃ W,W=wr.drew:=⟨_,rfl⟩;obtain⟨W5,N7⟩:∃ W,W=(((wr.drew.setCell ⟨p,0,none⟩ (.int .i64 U)).setCell ⟨p,1,none⟩ (.int .i64 V)).setCell ⟨p,2,none⟩ (.string et)).setCell ⟨p,3,none⟩ (.int .i64 ev):=⟨_,rfl⟩
        have D:ai (W5.cell? ⟨p,0,none⟩=some (.int .i64 (h_ (some ⟨U,V,et,ev⟩)).a)∧W5.cell? ⟨p,1,none⟩=some (.int .i64 (h_ (some ⟨U,V,et,ev⟩)).n)∧W5.cell? ⟨p,2,none⟩=some (.string (h_ (some ⟨U,V,et,ev⟩)).s)∧W5.cell? ⟨p,3,none⟩=some (.int .i64 (h_ (some ⟨U,V,et,ev⟩)).v)):=by
         unfold ai;rw[N7];exact⟨by go_simp;try rfl,by go_simp;try rfl,by go_simp;try rfl,by go_simp;try rfl⟩
        have C:ai (aA p W5):=ah (by rw[N7];exact (((C.set _ _).set _ _).set _ _).set _ _)
        have Z:ai (av wo W5):=by
         unfold ai;rw[N7]
         have NC:wo.heap.size≤p:=by have:=Ov.o;omega
         exact (((Z.setCell (p:=⟨p,0,none⟩) NC _).setCell (p:=⟨p,1,none⟩) NC _).setCell (p:=⟨p,2,none⟩) NC _).setCell (p:=⟨p,3,none⟩) NC _
        have O6:ai (W5=((((wr.setCell ⟨p,0,none⟩ (.int .i64 U)).setCell ⟨p,1,none⟩ (.int .i64 V)).setCell ⟨p,2,none⟩ (.string et)).setCell ⟨p,3,none⟩ (.int .i64 ev)).drew):=N7.trans rfl;clear hHeld N7 O_;go_wp2_with fail;rw[← O6.o];go_roundw
        case rel=>exact⟨k+1,some ⟨U,V,et,ev⟩,by omega,by go_num,rfl,L,D,C,Z⟩
        case measure=>simp[intOf];omega
       | some y=>
        obtain⟨ya,yn,yt,yv⟩:=y;obtain⟨l2,O9⟩:∃ z,Dt.kI U V ya yn=z:=⟨_,rfl⟩;have Ol:=ah O9;clear O9
        replace p0:wr.cell? ⟨p,0,none⟩=some (.int .i64 ya):=p0
        replace p1:wr.cell? ⟨p,1,none⟩=some (.int .i64 yn):=p1
        replace p2:wr.cell? ⟨p,2,none⟩=some (.string yt):=p2
        replace p3:wr.cell? ⟨p,3,none⟩=some (.int .i64 yv):=p3
        have l:ai (Kept [(⟨b,o+k*5,none⟩,.slice Ap 0 cp),(⟨b,o+k*5+1,none⟩,.int .i64 U),(⟨b,o+k*5+2,none⟩,.int .i64 V),(⟨b,o+k*5+3,none⟩,.string et),(⟨b,o+k*5+4,none⟩,.int .i64 ev),(⟨p,0,none⟩,.int .i64 ya),(⟨p,1,none⟩,.int .i64 yn)] wr wr.drew):=by exact ((((((((Kept.nil wr).af p1).af p0).af c4).af c3).af c2).af c1).af c0).drew
        go_wp2_with fail;refine Rk (S:=fun W=>W.cell? ⟨b,o+k*5,none⟩=some (.slice Ap 0 cp)∧W.cell? ⟨b,o+k*5+1,none⟩=some (.int .i64 U)∧W.cell? ⟨b,o+k*5+2,none⟩=some (.int .i64 V)∧W.cell? ⟨b,o+k*5+3,none⟩=some (.string et)∧W.cell? ⟨b,o+k*5+4,none⟩=some (.int .i64 ev)∧W.cell? ⟨p,0,none⟩=some (.int .i64 ya)∧W.cell? ⟨p,1,none⟩=some (.int .i64 yn)) (fun hHeld=>?_);refine T4 0 19 1 20 2 21 3 22 ?_;refine T4 4 23 5 24 6 25 7 26 ?_;refine T3 8 27 9 28 10 29 ?_;refine U4 11 30 12 31 13 32 14 33 ?_;refine U4 15 34 16 35 17 36 18 37 ?_;refine U3 19 38 20 39 21 40 ?_
        refine U3 22 41 23 42 24 43 ?_;refine T4 25 44 26 45 27 46 28 47 ?_;refine T4 29 48 30 49 31 50 32 51 ?_;refine T4 33 52 34 53 35 54 36 55 ?_;refine T2 37 56 38 57 ?_;refine Tc 39 (fun K N=>?_);go_simp;(go_at_call 120;refine (Dt.pY U V ya yn _).mono ?_);rw[Ol.o];rintro e v2 ⟨rfl,Og⟩;have l:=ah (l.later Og);clear Og;clear hHeld;refine Th N ?_ (fun hHeld=>?_)
        ·exact⟨l.c0,l.c1,l.c2,l.c3,l.c4,l.c5,l.c6⟩
        clear N K;refine T2 40 59 41 60 ?_;refine Td ?_
        cases l2 with
        | false=>
         have L:ai (bq mX (fQ (ls.take (k+1))) (pF mX es 0) (some ⟨ya,yn,yt,yv⟩)):=ah (by rw[N8.o];exact nQ (fun h=>by have h2:Dt.kI U V ya yn=true:=h;rw[Ol.o]at h2;cases h2) NA)
         have B:=l.below;have Z:=ah (M.trans (B.mono M.size));have C:=ah (F.later B);have D:=ah (And.intro ((B.cell (p:=⟨p,0,none⟩) F.1).trans H.1) (And.intro ((B.cell (p:=⟨p,1,none⟩) F.1).trans H.2.1) (And.intro ((B.cell (p:=⟨p,2,none⟩) F.1).trans H.2.2.1) ((B.cell (p:=⟨p,3,none⟩) F.1).trans H.2.2.2))));clear B;clear hHeld;go_wp2_with fail;go_roundw
         case rel=>exact⟨k+1,(some ⟨ya,yn,yt,yv⟩),by omega,by go_num,rfl,L,D,C,Z⟩
         case measure=>simp[intOf];omega
        | true=>
         have B:=l.below;have Z:=ah (M.trans (B.mono M.size));have C:=ah (F.later B);have D:=ah (And.intro ((B.cell (p:=⟨p,0,none⟩) F.1).trans H.1) (And.intro ((B.cell (p:=⟨p,1,none⟩) F.1).trans H.2.1) (And.intro ((B.cell (p:=⟨p,2,none⟩) F.1).trans H.2.2.1) ((B.cell (p:=⟨p,3,none⟩) F.1).trans H.2.2.2))));clear B;have e1:=l.c1;have e2:=l.c2;have e3:=l.c3;have e4:=l.c4;have y0:=D.1;have y1:=D.2.1;have y2:=D.2.2.1;have y3:=D.2.2.2;have m0:=C.2 0;have m1:=C.2 1;have m2:=C.2 2;have m3:=C.2 3
         have L:ai (bq mX (fQ (ls.take (k+1))) (pF mX es 0) (some (⟨U,V,et,ev⟩:E))):=ah (by rw[N8.o];exact lS sP (fun _ _ _=>Bf) NR (show mX (⟨U,V,et,ev⟩:E) (⟨ya,yn,yt,yv⟩:E) from Ol.o) NA)
         obtain⟨wv,O_⟩:∃ W,W=v2:=⟨_,rfl⟩;obtain⟨W5,N7⟩:∃ W,W=(((v2.setCell ⟨p,0,none⟩ (.int .i64 U)).setCell ⟨p,1,none⟩ (.int .i64 V)).setCell ⟨p,2,none⟩ (.string et)).setCell ⟨p,3,none⟩ (.int .i64 ev):=⟨_,rfl⟩
         have D:ai (W5.cell? ⟨p,0,none⟩=some (.int .i64 (h_ (some ⟨U,V,et,ev⟩)).a)∧W5.cell? ⟨p,1,none⟩=some (.int .i64 (h_ (some ⟨U,V,et,ev⟩)).n)∧W5.cell? ⟨p,2,none⟩=some (.string (h_ (some ⟨U,V,et,ev⟩)).s)∧W5.cell? ⟨p,3,none⟩=some (.int .i64 (h_ (some ⟨U,V,et,ev⟩)).v)):=by
          unfold ai;rw[N7];exact⟨by go_simp;try rfl,by go_simp;try rfl,by go_simp;try rfl,by go_simp;try rfl⟩
         have C:ai (aA p W5):=ah (by rw[N7];exact (((C.set _ _).set _ _).set _ _).set _ _)
         have Z:ai (av wo W5):=by
          unfold ai;rw[N7]
          have NC:wo.heap.size≤p:=by have:=Ov.o;omega
          exact (((Z.setCell (p:=⟨p,0,none⟩) NC _).setCell (p:=⟨p,1,none⟩) NC _).setCell (p:=⟨p,2,none⟩) NC _).setCell (p:=⟨p,3,none⟩) NC _
         have O6:ai (W5=(((v2.setCell ⟨p,0,none⟩ (.int .i64 U)).setCell ⟨p,1,none⟩ (.int .i64 V)).setCell ⟨p,2,none⟩ (.string et)).setCell ⟨p,3,none⟩ (.int .i64 ev)):=N7.trans rfl;clear hHeld N7 O_;go_wp2_with fail;rw[← O6.o];go_roundw
         case rel=>exact⟨k+1,some ⟨U,V,et,ev⟩,by omega,by go_num,rfl,L,D,C,Z⟩
         case measure=>simp[intOf];omega
      ·have fi:((i:Int)==0)=false:=by rw[gP];omega
       obtain⟨b2,o2,eA,Ox,Px⟩:=fJ gQ HO.rd (m:=i-1) (by omega)
       have Qb:i-1<(es.take i).length:=by rw[l7,← O5.o];omega
       have Qc:i-1<es.length:=by rw[← O5.o];omega
       subst eA;have d0:=(M.cell (p:=⟨b2,o2+(i-1)*4,none⟩) Ox).trans (Px (i-1) Qb 0 _ rfl);have d1:=(M.cell (p:=⟨b2,o2+(i-1)*4+1,none⟩) Ox).trans (Px (i-1) Qb 1 _ rfl);rw[List.getElem_take]at d0 d1
       have NR:ai (pF mX es i (⟨U,V,et,ev⟩:E)↔Dt.kI (es[i-1]).a (es[i-1]).n U V=true):=by
        unfold ai pF;exact⟨fun h=>h (by omega) Qc,fun h _ _=>h⟩
       obtain⟨la,OE⟩:∃ z,z=(es[i-1]).a:=⟨_,rfl⟩;obtain⟨ln,Qd⟩:∃ z,z=(es[i-1]).n:=⟨_,rfl⟩;rw[← OE]at d0 NR;rw[← Qd]at d1 NR;obtain⟨l1,Oz⟩:∃ z,Dt.kI la ln U V=z:=⟨_,rfl⟩;have OC:=ah Oz
       have hb2p:b2<p:=by have h1:=Ov.o;omega
       have hkm:IntKind.i64.wrap ((i:Int)-1)=((i-1:Nat):Int):=by rw[iN];omega
       have hkm2:((i-1:Nat):Int)<(i:Int):=by omega
       have hkm3:(0:Int)≤((i-1:Nat):Int):=by omega
       have hbz:¬b2=p:=by omega
       have hbz2:¬p=b2:=by omega
       clear Px OE Qd Oz
       cases x with
       | none=>
        have l:ai (Kept [(⟨b,o+k*5,none⟩,.slice Ap 0 cp),(⟨b,o+k*5+1,none⟩,.int .i64 U),(⟨b,o+k*5+2,none⟩,.int .i64 V),(⟨b,o+k*5+3,none⟩,.string et),(⟨b,o+k*5+4,none⟩,.int .i64 ev),(⟨r,0,none⟩,.slice (some ⟨b2,o2,none⟩) i k3),(⟨b2,o2+(i-1)*4,none⟩,.int .i64 la),(⟨b2,o2+(i-1)*4+1,none⟩,.int .i64 ln)] wr wr.drew):=by exact (((((((((Kept.nil wr).af d1).af d0).af s0).af c4).af c3).af c2).af c1).af c0).drew
        go_wp2_with fail;refine Rk (S:=fun W=>W.cell? ⟨b,o+k*5,none⟩=some (.slice Ap 0 cp)∧W.cell? ⟨b,o+k*5+1,none⟩=some (.int .i64 U)∧W.cell? ⟨b,o+k*5+2,none⟩=some (.int .i64 V)∧W.cell? ⟨b,o+k*5+3,none⟩=some (.string et)∧W.cell? ⟨b,o+k*5+4,none⟩=some (.int .i64 ev)∧W.cell? ⟨r,0,none⟩=some (.slice (some ⟨b2,o2,none⟩) i k3)∧W.cell? ⟨b2,o2+(i-1)*4,none⟩=some (.int .i64 la)∧W.cell? ⟨b2,o2+(i-1)*4+1,none⟩=some (.int .i64 ln)) (fun hHeld=>?_);refine T4 0 19 1 20 2 21 3 22 ?_;refine T4 4 23 5 24 6 25 7 26 ?_;refine T4 8 27 9 28 10 29 11 30 ?_;refine T4 12 31 13 32 14 33 15 34 ?_;refine Tk 16 35 ?_
        refine T4 17 36 18 37 19 38 20 39 ?_;refine T3 21 40 22 41 23 42 ?_;refine Tc 24 (fun K N=>?_);go_simp;(go_at_call 120;refine (Dt.pY la ln U V _).mono ?_);rw[OC.o];rintro e v1 ⟨rfl,Og⟩;have l:=ah (l.later Og);clear Og;clear hHeld;refine Th N ?_ (fun hHeld=>?_)
        ·exact⟨l.c0,l.c1,l.c2,l.c3,l.c4,l.c5,l.c6,l.c7⟩
        clear N K
        cases l1 with
        | true=>
         refine T4 25 44 26 45 27 46 28 47 ?_;refine T2 29 48 30 49 ?_;refine U4 31 50 32 51 33 52 34 53 ?_;refine U4 35 54 36 55 37 56 38 57 ?_;refine Tn 39 58 ?_;refine T2 40 59 41 60 ?_;refine Td ?_;have B:=l.below;have Z:=ah (M.trans (B.mono M.size));have C:=ah (F.later B);have D:=ah (And.intro ((B.cell (p:=⟨p,0,none⟩) F.1).trans H.1) (And.intro ((B.cell (p:=⟨p,1,none⟩) F.1).trans H.2.1) (And.intro ((B.cell (p:=⟨p,2,none⟩) F.1).trans H.2.2.1) ((B.cell (p:=⟨p,3,none⟩) F.1).trans H.2.2.2))));clear B;have e1:=l.c1;have e2:=l.c2;have e3:=l.c3
         have e4:=l.c4;have y0:=D.1;have y1:=D.2.1;have y2:=D.2.2.1;have y3:=D.2.2.2;have m0:=C.2 0;have m1:=C.2 1;have m2:=C.2 2;have m3:=C.2 3
         have L:ai (bq mX (fQ (ls.take (k+1))) (pF mX es i) (some (⟨U,V,et,ev⟩:E))):=ah (by rw[N8.o];exact nP sP (NR.2 OC) NA)
         obtain⟨wv,O_⟩:∃ W,W=v1:=⟨_,rfl⟩;obtain⟨W5,N7⟩:∃ W,W=(((v1.setCell ⟨p,0,none⟩ (.int .i64 U)).setCell ⟨p,1,none⟩ (.int .i64 V)).setCell ⟨p,2,none⟩ (.string et)).setCell ⟨p,3,none⟩ (.int .i64 ev):=⟨_,rfl⟩
         have D:ai (W5.cell? ⟨p,0,none⟩=some (.int .i64 (h_ (some ⟨U,V,et,ev⟩)).a)∧W5.cell? ⟨p,1,none⟩=some (.int .i64 (h_ (some ⟨U,V,et,ev⟩)).n)∧W5.cell? ⟨p,2,none⟩=some (.string (h_ (some ⟨U,V,et,ev⟩)).s)∧W5.cell? ⟨p,3,none⟩=some (.int .i64 (h_ (some ⟨U,V,et,ev⟩)).v)):=by
          unfold ai;rw[N7];exact⟨by go_simp;try rfl,by go_simp;try rfl,by go_simp;try rfl,by go_simp;try rfl⟩
         have C:ai (aA p W5):=ah (by rw[N7];exact (((C.set _ _).set _ _).set _ _).set _ _)
         have Z:ai (av wo W5):=by
          unfold ai;rw[N7]
          have NC:wo.heap.size≤p:=by have:=Ov.o;omega
          exact (((Z.setCell (p:=⟨p,0,none⟩) NC _).setCell (p:=⟨p,1,none⟩) NC _).setCell (p:=⟨p,2,none⟩) NC _).setCell (p:=⟨p,3,none⟩) NC _
         have O6:ai (W5=(((v1.setCell ⟨p,0,none⟩ (.int .i64 U)).setCell ⟨p,1,none⟩ (.int .i64 V)).setCell ⟨p,2,none⟩ (.string et)).setCell ⟨p,3,none⟩ (.int .i64 ev)):=N7.trans rfl;clear hHeld N7 O_;go_wp2_with fail;rw[← O6.o];go_roundw
         case rel=>exact⟨k+1,some ⟨U,V,et,ev⟩,by omega,by go_num,rfl,L,D,C,Z⟩
         case measure=>simp[intOf];omega
        | false=>
         refine T3 25 44 26 45 27 46 ?_;refine U4 28 47 29 48 30 49 31 50 ?_;refine U4 32 51 33 52 34 53 35 54 ?_;refine U4 36 55 37 56 38 57 39 58 ?_;refine Tn 40 59 ?_;refine Tk 41 60 ?_;refine Td ?_
         have L:ai (bq mX (fQ (ls.take (k+1))) (pF mX es i) none):=ah (by rw[N8.o];exact lT (fun h=>by have h2:=NR.1 h;rw[OC.o]at h2;cases h2) NA)
         have B:=l.below;have Z:=ah (M.trans (B.mono M.size));have C:=ah (F.later B);have D:=ah (And.intro ((B.cell (p:=⟨p,0,none⟩) F.1).trans H.1) (And.intro ((B.cell (p:=⟨p,1,none⟩) F.1).trans H.2.1) (And.intro ((B.cell (p:=⟨p,2,none⟩) F.1).trans H.2.2.1) ((B.cell (p:=⟨p,3,none⟩) F.1).trans H.2.2.2))));clear B;clear hHeld;go_wp2_with fail;go_roundw
         case rel=>exact⟨k+1,none,by omega,by go_num,rfl,L,D,C,Z⟩
         case measure=>simp[intOf];omega
       | some y=>
        obtain⟨ya,yn,yt,yv⟩:=y;obtain⟨l2,O9⟩:∃ z,Dt.kI U V ya yn=z:=⟨_,rfl⟩;have Ol:=ah O9;clear O9
        replace p0:wr.cell? ⟨p,0,none⟩=some (.int .i64 ya):=p0
        replace p1:wr.cell? ⟨p,1,none⟩=some (.int .i64 yn):=p1
        replace p2:wr.cell? ⟨p,2,none⟩=some (.string yt):=p2
        replace p3:wr.cell? ⟨p,3,none⟩=some (.int .i64 yv):=p3
        have l:ai (Kept [(⟨b,o+k*5,none⟩,.slice Ap 0 cp),(⟨b,o+k*5+1,none⟩,.int .i64 U),(⟨b,o+k*5+2,none⟩,.int .i64 V),(⟨b,o+k*5+3,none⟩,.string et),(⟨b,o+k*5+4,none⟩,.int .i64 ev),(⟨p,0,none⟩,.int .i64 ya),(⟨p,1,none⟩,.int .i64 yn),(⟨r,0,none⟩,.slice (some ⟨b2,o2,none⟩) i k3),(⟨b2,o2+(i-1)*4,none⟩,.int .i64 la),(⟨b2,o2+(i-1)*4+1,none⟩,.int .i64 ln)] wr wr.drew):=by exact (((((((((((Kept.nil wr).af d1).af d0).af s0).af p1).af p0).af c4).af c3).af c2).af c1).af c0).drew
        go_wp2_with fail;refine Rk (S:=fun W=>W.cell? ⟨b,o+k*5,none⟩=some (.slice Ap 0 cp)∧W.cell? ⟨b,o+k*5+1,none⟩=some (.int .i64 U)∧W.cell? ⟨b,o+k*5+2,none⟩=some (.int .i64 V)∧W.cell? ⟨b,o+k*5+3,none⟩=some (.string et)∧W.cell? ⟨b,o+k*5+4,none⟩=some (.int .i64 ev)∧W.cell? ⟨p,0,none⟩=some (.int .i64 ya)∧W.cell? ⟨p,1,none⟩=some (.int .i64 yn)∧W.cell? ⟨r,0,none⟩=some (.slice (some ⟨b2,o2,none⟩) i k3)∧W.cell? ⟨b2,o2+(i-1)*4,none⟩=some (.int .i64 la)∧W.cell? ⟨b2,o2+(i-1)*4+1,none⟩=some (.int .i64 ln)) (fun hHeld=>?_);refine T4 0 19 1 20 2 21 3 22 ?_;refine T4 4 23 5 24 6 25 7 26 ?_;refine T4 8 27 9 28 10 29 11 30 ?_
        refine T4 12 31 13 32 14 33 15 34 ?_;refine T4 16 35 17 36 18 37 19 38 ?_;refine T4 20 39 21 40 22 41 23 42 ?_;refine Tc 24 (fun K N=>?_);go_simp;(go_at_call 120;refine (Dt.pY la ln U V _).mono ?_);rw[OC.o];rintro e v1 ⟨rfl,Og⟩;have l:=ah (l.later Og);clear Og;clear hHeld;refine Th N ?_ (fun hHeld=>?_)
        ·exact⟨l.c0,l.c1,l.c2,l.c3,l.c4,l.c5,l.c6,l.c7,l.tail.tail.c6,l.tail.tail.c7⟩
        clear N K
        cases l1 with
        | true=>
         refine T4 25 44 26 45 27 46 28 47 ?_;refine T4 29 48 30 49 31 50 32 51 ?_;refine T4 33 52 34 53 35 54 36 55 ?_;refine T2 37 56 38 57 ?_;refine Tc 39 (fun K N=>?_);go_simp;(go_at_call 120;refine (Dt.pY U V ya yn _).mono ?_);rw[Ol.o];rintro e v2 ⟨rfl,Og⟩;have l:=ah (l.later Og);clear Og;clear hHeld;refine Th N ?_ (fun hHeld=>?_)
         ·exact⟨l.c0,l.c1,l.c2,l.c3,l.c4,l.c5,l.c6,l.c7,l.tail.tail.c6,l.tail.tail.c7⟩
         clear N K;refine T2 40 59 41 60 ?_;refine Td ?_
         cases l2 with
         | false=>
          have L:ai (bq mX (fQ (ls.take (k+1))) (pF mX es i) (some ⟨ya,yn,yt,yv⟩)):=ah (by rw[N8.o];exact nQ (fun h=>by have h2:Dt.kI U V ya yn=true:=h;rw[Ol.o]at h2;cases h2) NA)
          have B:=l.below;have Z:=ah (M.trans (B.mono M.size));have C:=ah (F.later B);have D:=ah (And.intro ((B.cell (p:=⟨p,0,none⟩) F.1).trans H.1) (And.intro ((B.cell (p:=⟨p,1,none⟩) F.1).trans H.2.1) (And.intro ((B.cell (p:=⟨p,2,none⟩) F.1).trans H.2.2.1) ((B.cell (p:=⟨p,3,none⟩) F.1).trans H.2.2.2))));clear B;clear hHeld;go_wp2_with fail;go_roundw
          case rel=>exact⟨k+1,(some ⟨ya,yn,yt,yv⟩),by omega,by go_num,rfl,L,D,C,Z⟩
          case measure=>simp[intOf];omega
         | true=>
          have B:=l.below;have Z:=ah (M.trans (B.mono M.size));have C:=ah (F.later B);have D:=ah (And.intro ((B.cell (p:=⟨p,0,none⟩) F.1).trans H.1) (And.intro ((B.cell (p:=⟨p,1,none⟩) F.1).trans H.2.1) (And.intro ((B.cell (p:=⟨p,2,none⟩) F.1).trans H.2.2.1) ((B.cell (p:=⟨p,3,none⟩) F.1).trans H.2.2.2))));clear B;have e1:=l.c1;have e2:=l.c2;have e3:=l.c3;have e4:=l.c4;have y0:=D.1;have y1:=D.2.1;have y2:=D.2.2.1;have y3:=D.2.2.2;have m0:=C.2 0;have m1:=C.2 1;have m2:=C.2 2;have m3:=C.2 3
          have L:ai (bq mX (fQ (ls.take (k+1))) (pF mX es i) (some (⟨U,V,et,ev⟩:E))):=ah (by rw[N8.o];exact lS sP (fun _ _ _=>Bf) (NR.2 OC) (show mX (⟨U,V,et,ev⟩:E) (⟨ya,yn,yt,yv⟩:E) from Ol.o) NA)
          obtain⟨wv,O_⟩:∃ W,W=v2:=⟨_,rfl⟩;obtain⟨W5,N7⟩:∃ W,W=(((v2.setCell ⟨p,0,none⟩ (.int .i64 U)).setCell ⟨p,1,none⟩ (.int .i64 V)).setCell ⟨p,2,none⟩ (.string et)).setCell ⟨p,3,none⟩ (.int .i64 ev):=⟨_,rfl⟩
          have D:ai (W5.cell? ⟨p,0,none⟩=some (.int .i64 (h_ (some ⟨U,V,et,ev⟩)).a)∧W5.cell? ⟨p,1,none⟩=some (.int .i64 (h_ (some ⟨U,V,et,ev⟩)).n)∧W5.cell? ⟨p,2,none⟩=some (.string (h_ (some ⟨U,V,et,ev⟩)).s)∧W5.cell? ⟨p,3,none⟩=some (.int .i64 (h_ (some ⟨U,V,et,ev⟩)).v)):=by
           unfold ai;rw[N7];exact⟨by go_simp;try rfl,by go_simp;try rfl,by go_simp;try rfl,by go_simp;try rfl⟩
          have C:ai (aA p W5):=ah (by rw[N7];exact (((C.set _ _).set _ _).set _ _).set _ _)
          have Z:ai (av wo W5):=by
           unfold ai;rw[N7]
           have NC:wo.heap.size≤p:=by have:=Ov.o;omega
           exact (((Z.setCell (p:=⟨p,0,none⟩) NC _).setCell (p:=⟨p,1,none⟩) NC _).setCell (p:=⟨p,2,none⟩) NC _).setCell (p:=⟨p,3,none⟩) NC _
          have O6:ai (W5=(((v2.setCell ⟨p,0,none⟩ (.int .i64 U)).setCell ⟨p,1,none⟩ (.int .i64 V)).setCell ⟨p,2,none⟩ (.string et)).setCell ⟨p,3,none⟩ (.int .i64 ev)):=N7.trans rfl;clear hHeld N7 O_;go_wp2_with fail;rw[← O6.o];go_roundw
          case rel=>exact⟨k+1,some ⟨U,V,et,ev⟩,by omega,by go_num,rfl,L,D,C,Z⟩
          case measure=>simp[intOf];omega
        | false=>
         refine T3 25 44 26 45 27 46 ?_;refine U4 28 47 29 48 30 49 31 50 ?_;refine U4 32 51 33 52 34 53 35 54 ?_;refine U4 36 55 37 56 38 57 39 58 ?_;refine Tn 40 59 ?_;refine Tk 41 60 ?_;refine Td ?_
         have L:ai (bq mX (fQ (ls.take (k+1))) (pF mX es i) (some ⟨ya,yn,yt,yv⟩)):=ah (by rw[N8.o];exact lT (fun h=>by have h2:=NR.1 h;rw[OC.o]at h2;cases h2) NA)
         have B:=l.below;have Z:=ah (M.trans (B.mono M.size));have C:=ah (F.later B);have D:=ah (And.intro ((B.cell (p:=⟨p,0,none⟩) F.1).trans H.1) (And.intro ((B.cell (p:=⟨p,1,none⟩) F.1).trans H.2.1) (And.intro ((B.cell (p:=⟨p,2,none⟩) F.1).trans H.2.2.1) ((B.cell (p:=⟨p,3,none⟩) F.1).trans H.2.2.2))));clear B;clear hHeld;go_wp2_with fail;go_roundw
         case rel=>exact⟨k+1,(some ⟨ya,yn,yt,yv⟩),by omega,by go_num,rfl,L,D,C,Z⟩
         case measure=>simp[intOf];omega
    ·obtain rfl:n=k:=by omega
     have G:=NA.o;rw[eO (by rw[OO.o];omega)]at G;have G:=GL HM HT (by rw[← O5.o];exact hi) G;have s0:=OZ.o
     cases x with
     | none=>
      have OU:i=ne:=by
       rw[eq_comm,List.getElem?_eq_none_iff]at G;have:=O5.o;omega
      subst OU
      have PO:ai (RO wr (fun b=>r+1≤b∧(Value.slice none 0 0).ownBlock≠some b) 4 A3 i k3 (bV es)):=by
       have h1:=HO.o;rw[eO (by rw[← O5.o];omega)]at h1;exact ((RO.b_ h1).keep M.size (fun b _ O=>M.block b O)).mono (fun b Y _=>⟨Y.1,by simp[Value.ownBlock]⟩)
      have Pv:ai (es.length=i):=O5.symm;have Pj:=ah (And.intro s0 (And.intro ((M.cell (p:=⟨r,1,none⟩) Ny.1).trans R.2.1) (And.intro ((M.cell (p:=⟨q,0,none⟩) Nz.1).trans R.2.2.1) ((M.cell (p:=⟨q,1,none⟩) Nz.1).trans R.2.2.2))));have Pn:=ah (Ny.later M);have Pm:=ah (Nz.later M);have Pp:ai (r+1≤wr.heap.size):=aN NK M.size;have P8:=ah (HB.trans (M.mono HB.size));clear s0 G;rw[show (Option.isSome (none:Option E))=false from rfl];go_wp2_with fail
      go_loopw [8] (fun s wz=>∃ (j:Nat) (Ax:Option Addr) (cx:Nat) (kr:List (ByteArray×SV×SV)),j≤nk∧s = .string (bD ks j)∧ai (bK wz (r+1) 134 Ax j cx (ks.take j) kr)∧ai (RO wz (fun b=>r+1≤b∧(Value.slice Ax j cx).ownBlock≠some b) 4 A3 i k3 (bV es))∧ai (wz.cell? ⟨r,0,none⟩=some (.slice A3 i k3)∧wz.cell? ⟨r,1,none⟩=some (.slice Ax j cx)∧wz.cell? ⟨q,0,none⟩=some (.slice none 0 0)∧wz.cell? ⟨q,1,none⟩=some (.slice none 0 0))∧ai (aA r wz)∧ai (aA q wz)∧ai (r+1≤wz.heap.size)∧ai (av w wz)) (fun _ wz=>nk+1-dS (wz.cell? ⟨r,1,none⟩))
      case atStart=>exact⟨0,none,0,[],by omega,rfl,bK.nil _ _ _,PO,Pj,Pn,Pm,Pp,P8⟩
      case round=>
       clear HO R Ny Nz NK HB NA H F M OZ PO Pj Pn Pm Pp P8 Ov PX P_;obtain⟨j,Ax,cx,kr,hj,rfl,Oj,Pb,R,Ny,Nz,NK,HB⟩:=hrel;obtain⟨wk,Q5⟩:∃ W,W=wr:=⟨_,rfl⟩;subst Q5;obtain⟨la,OE⟩:∃ z,z=bD ks j:=⟨_,rfl⟩;rw[← OE];have Qn:=ah OE;clear OE;go_wp2_with fail
       go_loopw [9,77] (fun s z wz=>∃ (k:Nat) (x:Option ByteArray),k≤n∧z = .int .i64 k∧s = .string (qU x)∧wk=wz∧ai (bq cK (iD (ls.take k)) (pF cK (ks.map fun x=>x.1) j) x)) (fun _ z _=>n-(intOf z).toNat)
       case atStart=>exact⟨0,none,by omega,by first | rfl | trivial,by first | rfl | trivial,by first | rfl | trivial,by unfold ai;intro y hy;simp[iD]at hy⟩
       case round=>
        obtain⟨k,x,hk,rfl,rfl,rfl,NA⟩:=hrel
        by_cases O:k<n
        ·have OV:k<ls.length:=by rw[OO.o];exact O
         obtain⟨b,o,rfl,Y,hc⟩:=mh.at_ HL (by omega);obtain⟨⟨Ap,np,cp⟩,c0,_,_,_,_,NH,OG⟩:=hc k OV;dsimp only at c0 NH OG;have c0:=(HB.cell (p:=⟨b,o+k*5,none⟩) Y).trans c0;have NF:=EA OV
         have OB:∀ y∈iD (ls.take (k+1)),1≤y.size:=fun y hy=>Jz HT ((zH HM y).1 (by
          unfold iD at hy ⊢;rw[List.mem_filterMap]at hy ⊢;obtain⟨a,ha,he⟩:=hy
          exact⟨a,List.mem_of_mem_take ha,he⟩))
         obtain⟨lf,OX⟩:∃ z,z=ls[k]:=⟨_,rfl⟩;rw[← OX]at NH OG NF;obtain⟨pa,e⟩:=lf;dsimp only at NH OG;clear hc OX
         cases pa with
         | nil=>
          have P5:np=0:=by rw[← NH];rfl
          subst P5
          have L:ai (bq cK (iD (ls.take (k+1))) (pF cK (ks.map fun x=>x.1) j) x):=ah (by rw[NF];have h1:iD [(([]:List ByteArray),e)]=[]:=rfl;rw[h1,kR];exact NA.o)
          clear NF NH OG OB;go_wp2_with fail;go_roundw
          case rel=>exact⟨k+1,x,by omega,by go_num,by first | rfl | trivial,by first | rfl | trivial,L⟩
          case measure=>simp[intOf];omega
         | cons k0 pa=>
          have Pt:0<np:=by rw[← NH];exact Nat.succ_pos _
          have fz:decide ((0:Int)<(np:Int))=true:=aJ (by omega)
          have fz2:(0:Int)<(np:Int):=by omega
          obtain⟨b1,o1,rfl,OQ,_,Qa⟩:=OG.at_ Pt;have p0:=(HB.cell (p:=⟨b1,o1,none⟩) OQ).trans (by simpa [strs] using Qa 0 (.string k0) (by simp[strs]));have NT:iD (ls.take (k+1))=iD (ls.take k)++[k0]:=NF;have Qy:1≤k0.size:=OB k0 (by rw[NT];exact Ec _ fA);have Pe:=GI (ks:=ks) (j:=j) Qy (by rw[← OM.o];exact hj);rw[← Qn.o]at Pe;obtain⟨l1,Oz⟩:∃ z,Op.bytesLess la.toList k0.toList=z:=⟨_,rfl⟩;rw[Oz]at Pe;have NR:=ah Pe;have N8:=ah NT;have PK:=ah OB;clear Qa OG NH NF NT Pe OB
          cases l1 with
          | false=>
           have L:ai (bq cK (iD (ls.take (k+1))) (pF cK (ks.map fun x=>x.1) j) x):=ah (by rw[N8.o];exact lT (fun h=>by have h2:=NR.1 h;cases h2) NA)
           have Qk:Op.bytesLess k0.toList la.toList=true∨k0=la:=by
            rcases aQ.tri k0 la with h | h | h
            ·exact .inl h
            ·exact .inr h
            ·have h2:Op.bytesLess la.toList k0.toList=true:=h
             rw[Oz]at h2
             cases h2
           rcases Qk with ft | rfl
           ·clear Oz
            go_wp2_with fail;go_roundw
            case rel=>exact⟨k+1,x,by omega,by go_num,by first | rfl | trivial,by first | rfl | trivial,L⟩
            case measure=>simp[intOf];omega
           ·go_wp2_with fail
            go_roundw
            case rel=>exact⟨k+1,x,by omega,by go_num,by first | rfl | trivial,by first | rfl | trivial,L⟩
            case measure=>simp[intOf];omega
          | true=>
           have ft:Op.bytesLess k0.toList la.toList=false:=by
            cases h:Op.bytesLess k0.toList la.toList with
            | false=>rfl
            | true=>exact absurd (aQ.tr k0 la k0 h Oz) (aQ.irr k0)
           have PZ:(k0.toList==la.toList)=false:=dJ (fun e=>by subst e;exact absurd Oz (by have:=aQ.irr k0;exact this))
           have ft3:¬k0.toList=la.toList:=by rw[gP]at PZ;exact PZ
           cases x with
           | none=>
            have L:ai (bq cK (iD (ls.take (k+1))) (pF cK (ks.map fun x=>x.1) j) (some k0)):=ah (by rw[N8.o];exact nP aQ.irr (NR.2 rfl) NA)
            rw[show qU none=⟨#[]⟩ from rfl];have fe:=mJ;go_wp2_with fail;go_roundw
            case rel=>exact⟨k+1,some k0,by omega,by go_num,by first | rfl | trivial,by first | rfl | trivial,L⟩
            case measure=>simp[intOf];omega
           | some y=>
            have Ph:1≤y.size:=PK.o y (by rw[N8.o];exact yE _ NA.1);rw[show qU (some y)=y from rfl];have fy:=mQ Ph;obtain⟨l2,O9⟩:∃ z,Op.bytesLess k0.toList y.toList=z:=⟨_,rfl⟩;have Ol:=ah O9
            cases l2 with
            | false=>
             have L:ai (bq cK (iD (ls.take (k+1))) (pF cK (ks.map fun x=>x.1) j) (some y)):=ah (by rw[N8.o];exact nQ (fun h=>by have h2:Op.bytesLess k0.toList y.toList=true:=h;rw[Ol.o]at h2;cases h2) NA)
             go_wp2_with fail;go_roundw
             case rel=>exact⟨k+1,some y,by omega,by go_num,by first | rfl | trivial,by first | rfl | trivial,L⟩
             case measure=>simp[intOf];omega
            | true=>
             have L:ai (bq cK (iD (ls.take (k+1))) (pF cK (ks.map fun x=>x.1) j) (some k0)):=ah (by rw[N8.o];exact lS aQ.irr (fun _ _ _=>aQ.tr _ _ _) (NR.2 rfl) (show cK k0 y from Ol.o) NA)
             go_wp2_with fail;go_roundw
             case rel=>exact⟨k+1,some k0,by omega,by go_num,by first | rfl | trivial,by first | rfl | trivial,L⟩
             case measure=>simp[intOf];omega
        ·obtain rfl:n=k:=by omega
         have G:=NA.o;rw[eO (by rw[OO.o];omega)]at G;have G:=GN HM HT (by rw[← OM.o];exact hj) G
         cases x with
         | none=>
          have Om:j=nk:=by
           rw[eq_comm,List.getElem?_eq_none_iff,eP]at G;have:=OM.o;omega
          have Pq:ks.take j=ks:=eO (by rw[← OM.o];omega);subst Om;have Py:=Oj.o;rw[Pq]at Py;have Qs:=ah (Py.tree (ok:=fun b=>w.heap.size≤b∧b≠q) (fun b Y _=>⟨by omega,fun e=>by have:=NG.o;omega⟩) (es:=es) (se:=⟨A3,i,k3⟩) Pv (Pb.mono (fun b Y _=>⟨by omega,fun e=>by have:=NG.o;omega⟩)));have z0:=R.1;have z1:=R.2.1;have z2:=R.2.2.1;have z3:=R.2.2.2;have m0:=Nz.2 0;have m1:=Nz.2 1;have fe:=mJ;rw[show qU none=⟨#[]⟩ from rfl];clear Pq Py G;obtain⟨w9,OI⟩:∃ W,W=(wk.setCell ⟨q,0,none⟩ (.slice A3 i k3)).setCell ⟨q,1,none⟩ (.slice Ax j cx):=⟨_,rfl⟩
          have Qq:ai (aX w9 (fun b=>w.heap.size≤b) (.mk es ks) ⟨A3,i,k3⟩ ⟨Ax,j,cx⟩):=by
           unfold ai;rw[OI];refine aX.mono (fun b Y _=>Y.1) _ (aX.keep (ok:=fun b=>w.heap.size≤b∧b≠q) (by simp[World.setCell]) (fun b Y O=>?_) _ Qs);exact (cZ _ ⟨q,1,none⟩ _ b (fun e=>Y.2 e)).trans (cZ _ ⟨q,0,none⟩ _ b (fun e=>Y.2 e))
          have P9:ai (av w w9):=ah (by rw[OI];exact (HB.setCell (p:=⟨q,0,none⟩) Ql _).setCell (p:=⟨q,1,none⟩) Ql _)
          have j0:w9.cell? ⟨q,0,none⟩=some (.slice A3 i k3):=by rw[OI];go_simp
          have j1:w9.cell? ⟨q,1,none⟩=some (.slice Ax j cx):=by rw[OI];go_simp
          have Qv:=ah OI;clear OI;go_wp2_with fail;rw[← Qv.o];refine bodyPost_ret (v:=.agg #[.slice A3 i k3,.slice Ax j cx]) (by simp[results,Tryz.results112,go_sem,j0,j1]) rfl ⟨A3,i,k3,Ax,j,cx,rfl,Qq,P9⟩
         | some y=>
          have Om:j<ks.length:=by
           by_cases h:j<ks.length
           ·exact h
           ·rw[List.getElem?_eq_none (by rw[eP];omega)]at G;cases G
          have hy:(ks[j]).1=y:=by
           rw[v_ (by rw[eP];exact Om),List.getElem_map]at G;injection G with G;exact G.symm
          have Pf:j+1≤nk:=by have:=OM.o;omega
          obtain⟨u,hu⟩:∃ z,z=(ks[j]).2:=⟨_,rfl⟩;have OP:=HT.o
          have Qi:au d u:=by rw[hu];exact (OP.2.2.2 _ (bT Om)).2.2
          have PV:ai (∀ x,x∈under ls y↔x∈leaves u):=fun x=>by
           have h1:under (leaves (.mk es ks)) y=leaves u:=by
            rw[oQ OP y,hu,← hy];exact congrArg leaves (zL OP.2.2.1 j Om)
           rw[I9 HM.o,h1]
          have Qh:nodes u≤100000:=by rw[hu];exact aN (dM (bT Om)) HN
          have OL:ai (ks.take (j+1)=ks.take j++[(y,u)]):=ah (by rw[dZ Om,hu,← hy])
          have OA:ai (bD ks (j+1)=y):=by
           show ((ks.map fun x=>x.1)[j]?).getD ⟨#[]⟩=y;rw[v_ (by rw[eP];exact Om),List.getElem_map];exact hy
          have P7:=Aj ls n A c y wk.drew Qe ((HL.below (bG) HB.drew).more HB.drew.size);obtain⟨m4,Pz⟩:∃ z,z=(under ls y).length:=⟨_,rfl⟩;rw[← Pz]at P7
          have Po:ai (m4≤100000):=by
           unfold ai;rw[Pz];exact aN (List.length_filterMap_le _ _) (by rw[OO.o];exact Qe)
          have PW:=ah P7;have PL:=ah Qh;have PS:=ah Qi
          have Ph:1≤y.size:=by rw[← hy];exact (OP.2.2.2 _ (bT Om)).1.1
          have fy:=mQ Ph;have s1:=R.2.1;rw[show qU (some y)=y from rfl];clear G hy hu OP Qi Qh P7 Pz Om Ph;go_wp2_with fail;refine Rg (S:=fun _=>True) (by trivial) (fun hHeld=>?_);refine T4 0 124 2 126 3 127 4 128 ?_;refine wpAnyH_ready (rs:=[1,5]) (by kernel_rfl) (by simp) ?_;refine AllReadyH.cons (o:=⟨some 125,_,_,_,_,_⟩) rfl (fun K N=>?_) (AllReadyH.cons (o:=⟨some 129,_,_,_,_,_⟩) rfl (fun K N=>?_) (AllReadyH.nil))
          ·go_simp
           refine Th N ?_ (fun f=>?_)
           ·trivial
           clear N K hHeld;have hHeld:=f;clear f;refine Tc 5 (fun K N=>?_);go_simp;(go_at_call 118;refine PW.mono ?_);rintro e w4 ⟨A4,c4,rfl,OW,OT⟩;have Oe:av wk w4:=((Below.refl wk.heap.size wk).drew).trans OT;have x1:=(Oe.cell (p:=⟨r,1,none⟩) Ny.1).trans R.2.1;have NS:=ah Oe;have OY:=ah (PI.o u PS _ PV A4 m4 c4 w4 Po PL OW);clear OT Oe OW;refine Th N ?_ (fun f=>?_)
           ·trivial
           clear N K hHeld;have hHeld:=f;clear f;refine Tc 6 (fun K N=>?_);go_simp;(go_at_call 112;refine OY.mono ?_);rintro e w5 ⟨NI,NP,NM,NJ,NQ,NN,rfl,Od,Oy⟩;have g:av wk w5:=NS.trans (Oy.mono NS.size);have NY:=Oj.later g;have Ob:=Pb.keep g.size (fun b _ O=>g.block b O);have O4:aX w5 (fun b=>r+1≤b∧(Value.slice Ax j cx).ownBlock≠some b) u ⟨NI,NP,NM⟩ ⟨NJ,NQ,NN⟩:=aX.mono (fun b Y _=>⟨by have h1:=NK.o;have h2:=NS.size;have h3:w4.heap.size≤b:=Y;omega,fun e=>by have h1:=(Oj.own.row.lt b e).2;have h2:=NS.size;have h3:w4.heap.size≤b:=Y;omega⟩) _ Od;obtain⟨A6,c6,w6,r6,NZ,N_,X⟩:=bK.vL (k:=(y,⟨NI,NP,NM⟩,⟨NJ,NQ,NN⟩)) Tryz.underlying33 qV rfl (by omega) NY w5.heap.size rfl (aN NK g.size) O4 (by omega) #[.string y,.slice NI NP NM,.slice NJ NQ NN] rfl
           have Oc:=N_.size;have N9:r<w5.heap.size:=cO Ny.1 g.size;have O0:q<w5.heap.size:=cO Nz.1 g.size
           have Oi:∀ x,x≤r→(Value.slice Ax j cx).ownBlock≠some x:=fun x hx e=>by have h1:=(Oj.own.row.lt x e).1;omega
           have t0:=(g.cell (p:=⟨r,1,none⟩) Ny.1).trans s1;have K6:∀ x,x≤r→x<w5.heap.size→∀ j,w6.cell? ⟨x,j,none⟩=w5.cell? ⟨x,j,none⟩:=fun x hx hl j=>bU (a:=⟨x,j,none⟩) (X x (Oi x hx) hl).1;have F6:∀ x,x≤r→x<w5.heap.size→∀ j,w6.frozen? ⟨x,j,none⟩=w5.frozen? ⟨x,j,none⟩:=fun x hx hl j=>Eb (a:=⟨x,j,none⟩) (X x (Oi x hx) hl).1;have u0:=(K6 r (bG) N9 1).trans t0;have mr:=(F6 r (bG) N9 1).trans ((Ny.later g).2 1);obtain⟨Q,J⟩:∃ W,W=w6.setCell ⟨r,1,none⟩ (.slice A6 (j+1) c6):=⟨_,rfl⟩
           have Oh:∀ x,x≠r→Q.heap[x]?=w6.heap[x]?:=fun x hx=>by rw[J];exact cZ _ ⟨r,1,none⟩ _ x (fun e=>hx e)
           have v0:Q.cell? ⟨r,1,none⟩=some (.slice A6 (j+1) c6):=by rw[J];go_simp
           have v1:Q.cell? ⟨r,0,none⟩=some (.slice A3 i k3):=by
            rw[J,oW w6 ⟨r,1,none⟩ ⟨r,0,none⟩ _ (fun e=>by injection e with _ e;cases e),K6 r (bG) N9 0];exact (g.cell (p:=⟨r,0,none⟩) Ny.1).trans R.1
           have v2:∀ x j,x≠r→x≤r→x<wk.heap.size→Q.cell? ⟨x,j,none⟩=wk.cell? ⟨x,j,none⟩:=fun x j hx hl O=>((bU (a:=⟨x,j,none⟩) (Oh x hx)).trans (K6 x hl (cO O g.size) j)).trans (g.cell (p:=⟨x,j,none⟩) O)
           have NU:ai (Q.cell? ⟨r,0,none⟩=some (.slice A3 i k3)∧Q.cell? ⟨r,1,none⟩=some (.slice A6 (j+1) c6)∧Q.cell? ⟨q,0,none⟩=some (.slice none 0 0)∧Q.cell? ⟨q,1,none⟩=some (.slice none 0 0)):=
            ⟨v1,v0,(v2 q 0 OH (by have:=NG.o;omega) Nz.1).trans R.2.2.1,(v2 q 1 OH (by have:=NG.o;omega) Nz.1).trans R.2.2.2⟩
           have O3:Q.heap.size=w6.heap.size:=by rw[J];simp[World.setCell]
           have O1:w5.heap.size≤w6.heap.size:=Oc
           have Oo:ai (bK Q (r+1) 134 A6 (j+1) c6 (ks.take (j+1)) (kr++[(y,⟨NI,NP,NM⟩,⟨NJ,NQ,NN⟩)])):=by
            unfold ai;rw[OL.o];exact NZ.M7 (m_ r) J
           have Oq:ai (RO Q (fun b=>r+1≤b∧(Value.slice A6 (j+1) c6).ownBlock≠some b) 4 A3 i k3 (bV es)):=
            ((Ob.mono (ok':=fun b=>r+1≤b∧(Value.slice Ax j cx).ownBlock≠some b∧(Value.slice A6 (j+1) c6).ownBlock≠some b) (fun b Y O=>⟨Y.1,Y.2,(X b Y.2 O).2⟩)).keep (by omega) (fun b Y O=>(Oh b (by omega)).trans (X b Y.2.1 O).1)).mono (fun b Y _=>⟨Y.1,Y.2.2⟩)
           have NW:ai (aA r Q):=by
            unfold ai;refine⟨by omega,fun j=>?_⟩;rw[J,yY];exact (F6 r (bG) N9 j).trans ((Ny.later g).2 j)
           have NV:ai (aA q Q):=by
            unfold ai;refine⟨by omega,fun j=>?_⟩;rw[J,yY];exact (F6 q (by have:=NG.o;omega) O0 j).trans ((Nz.later g).2 j)
           have Oa:ai (r+1≤Q.heap.size):=by have:=NK.o;have:=g.size;unfold ai;omega
           have Ot:ai (av w Q):=by
            unfold ai;rw[J];exact ((HB.trans (g.mono HB.size)).trans (N_.mono (by omega))).setCell (p:=⟨r,1,none⟩) Pg _
           have Ou:ai (nk+1-dS (Q.cell? ⟨r,1,none⟩)<nk+1-dS (wk.cell? ⟨r,1,none⟩)):=by
            unfold ai;rw[v0,R.o.2.1];show nk+1-(j+1)<nk+1-j;omega
           have NE:=ah r6;have Ow:=ah J;clear Od Oy g NY Ob O4 r6 NZ N_ X Oi K6 F6 J Oh v0 v1 v2 O3 O1 Oc;refine Th N ?_ (fun f=>?_)
           ·trivial
           clear N K hHeld;have hHeld:=f;clear f;refine Tk 7 131 ?_;refine Tc 8 (fun K N=>?_);go_simp;refine Th N ?_ (fun f=>?_)
           ·trivial
           clear N K hHeld;have hHeld:=f;clear f;refine Tc 9 (fun K N=>?_);refine bg _ _ _ rfl rfl rfl NE ?_;refine Th N ?_ (fun f=>?_)
           ·trivial
           clear N K hHeld;have hHeld:=f;clear f;refine Tk 10 134 ?_;refine Tc 11 (fun K N=>?_);go_simp;refine Th N ?_ (fun f=>?_)
           ·trivial
           clear N K hHeld;have hHeld:=f;clear f;refine Td ?_;clear t0 u0 mr NE hHeld x1 s1;go_wp2_with fail;rw[← Ow.o];go_roundw
           case rel=>exact⟨j+1,A6,c6,_,Pf,by rw[OA.o],Oo,Oq,NU,NW,NV,Oa,Ot⟩
           case measure=>exact Ou.o
          ·go_simp
           (go_at_call 118;refine PW.mono ?_);rintro e w4 ⟨A4,c4,rfl,OW,OT⟩;have Oe:av wk w4:=((Below.refl wk.heap.size wk).drew).trans OT;have x1:=(Oe.cell (p:=⟨r,1,none⟩) Ny.1).trans R.2.1;have NS:=ah Oe;have OY:=ah (PI.o u PS _ PV A4 m4 c4 w4 Po PL OW);clear OT Oe OW;refine Th N ?_ (fun f=>?_)
           ·trivial
           clear N K hHeld;have hHeld:=f;clear f;refine wpAnyH_ready (rs:=[1,6]) (by kernel_rfl) (by simp) ?_;refine AllReadyH.cons (o:=⟨some 125,_,_,_,_,_⟩) rfl (fun K N=>?_) (AllReadyH.cons (o:=⟨some 130,_,_,_,_,_⟩) rfl (fun K N=>?_) (AllReadyH.nil))
           ·go_simp
            refine Th N ?_ (fun f=>?_)
            ·trivial
            clear N K hHeld;have hHeld:=f;clear f;refine Tc 6 (fun K N=>?_);go_simp;(go_at_call 112;refine OY.mono ?_);rintro e w5 ⟨NI,NP,NM,NJ,NQ,NN,rfl,Od,Oy⟩;have g:av wk w5:=NS.trans (Oy.mono NS.size);have NY:=Oj.later g;have Ob:=Pb.keep g.size (fun b _ O=>g.block b O);have O4:aX w5 (fun b=>r+1≤b∧(Value.slice Ax j cx).ownBlock≠some b) u ⟨NI,NP,NM⟩ ⟨NJ,NQ,NN⟩:=aX.mono (fun b Y _=>⟨by have h1:=NK.o;have h2:=NS.size;have h3:w4.heap.size≤b:=Y;omega,fun e=>by have h1:=(Oj.own.row.lt b e).2;have h2:=NS.size;have h3:w4.heap.size≤b:=Y;omega⟩) _ Od;obtain⟨A6,c6,w6,r6,NZ,N_,X⟩:=bK.vL (k:=(y,⟨NI,NP,NM⟩,⟨NJ,NQ,NN⟩)) Tryz.underlying33 qV rfl (by omega) NY w5.heap.size rfl (aN NK g.size) O4 (by omega) #[.string y,.slice NI NP NM,.slice NJ NQ NN] rfl
            have Oc:=N_.size;have N9:r<w5.heap.size:=cO Ny.1 g.size;have O0:q<w5.heap.size:=cO Nz.1 g.size
            have Oi:∀ x,x≤r→(Value.slice Ax j cx).ownBlock≠some x:=fun x hx e=>by have h1:=(Oj.own.row.lt x e).1;omega
            have t0:=(g.cell (p:=⟨r,1,none⟩) Ny.1).trans s1;have K6:∀ x,x≤r→x<w5.heap.size→∀ j,w6.cell? ⟨x,j,none⟩=w5.cell? ⟨x,j,none⟩:=fun x hx hl j=>bU (a:=⟨x,j,none⟩) (X x (Oi x hx) hl).1;have F6:∀ x,x≤r→x<w5.heap.size→∀ j,w6.frozen? ⟨x,j,none⟩=w5.frozen? ⟨x,j,none⟩:=fun x hx hl j=>Eb (a:=⟨x,j,none⟩) (X x (Oi x hx) hl).1;have u0:=(K6 r (bG) N9 1).trans t0;have mr:=(F6 r (bG) N9 1).trans ((Ny.later g).2 1);obtain⟨Q,J⟩:∃ W,W=w6.setCell ⟨r,1,none⟩ (.slice A6 (j+1) c6):=⟨_,rfl⟩
            have Oh:∀ x,x≠r→Q.heap[x]?=w6.heap[x]?:=fun x hx=>by rw[J];exact cZ _ ⟨r,1,none⟩ _ x (fun e=>hx e)
            have v0:Q.cell? ⟨r,1,none⟩=some (.slice A6 (j+1) c6):=by rw[J];go_simp
            have v1:Q.cell? ⟨r,0,none⟩=some (.slice A3 i k3):=by
             rw[J,oW w6 ⟨r,1,none⟩ ⟨r,0,none⟩ _ (fun e=>by injection e with _ e;cases e),K6 r (bG) N9 0];exact (g.cell (p:=⟨r,0,none⟩) Ny.1).trans R.1
            have v2:∀ x j,x≠r→x≤r→x<wk.heap.size→Q.cell? ⟨x,j,none⟩=wk.cell? ⟨x,j,none⟩:=fun x j hx hl O=>((bU (a:=⟨x,j,none⟩) (Oh x hx)).trans (K6 x hl (cO O g.size) j)).trans (g.cell (p:=⟨x,j,none⟩) O)
            have NU:ai (Q.cell? ⟨r,0,none⟩=some (.slice A3 i k3)∧Q.cell? ⟨r,1,none⟩=some (.slice A6 (j+1) c6)∧Q.cell? ⟨q,0,none⟩=some (.slice none 0 0)∧Q.cell? ⟨q,1,none⟩=some (.slice none 0 0)):=
             ⟨v1,v0,(v2 q 0 OH (by have:=NG.o;omega) Nz.1).trans R.2.2.1,(v2 q 1 OH (by have:=NG.o;omega) Nz.1).trans R.2.2.2⟩
            have O3:Q.heap.size=w6.heap.size:=by rw[J];simp[World.setCell]
            have O1:w5.heap.size≤w6.heap.size:=Oc
            have Oo:ai (bK Q (r+1) 134 A6 (j+1) c6 (ks.take (j+1)) (kr++[(y,⟨NI,NP,NM⟩,⟨NJ,NQ,NN⟩)])):=by
             unfold ai;rw[OL.o];exact NZ.M7 (m_ r) J
            have Oq:ai (RO Q (fun b=>r+1≤b∧(Value.slice A6 (j+1) c6).ownBlock≠some b) 4 A3 i k3 (bV es)):=
             ((Ob.mono (ok':=fun b=>r+1≤b∧(Value.slice Ax j cx).ownBlock≠some b∧(Value.slice A6 (j+1) c6).ownBlock≠some b) (fun b Y O=>⟨Y.1,Y.2,(X b Y.2 O).2⟩)).keep (by omega) (fun b Y O=>(Oh b (by omega)).trans (X b Y.2.1 O).1)).mono (fun b Y _=>⟨Y.1,Y.2.2⟩)
            have NW:ai (aA r Q):=by
             unfold ai;refine⟨by omega,fun j=>?_⟩;rw[J,yY];exact (F6 r (bG) N9 j).trans ((Ny.later g).2 j)
            have NV:ai (aA q Q):=by
             unfold ai;refine⟨by omega,fun j=>?_⟩;rw[J,yY];exact (F6 q (by have:=NG.o;omega) O0 j).trans ((Nz.later g).2 j)
            have Oa:ai (r+1≤Q.heap.size):=by have:=NK.o;have:=g.size;unfold ai;omega
            have Ot:ai (av w Q):=by
             unfold ai;rw[J];exact ((HB.trans (g.mono HB.size)).trans (N_.mono (by omega))).setCell (p:=⟨r,1,none⟩) Pg _
            have Ou:ai (nk+1-dS (Q.cell? ⟨r,1,none⟩)<nk+1-dS (wk.cell? ⟨r,1,none⟩)):=by
             unfold ai;rw[v0,R.o.2.1];show nk+1-(j+1)<nk+1-j;omega
            have NE:=ah r6;have Ow:=ah J;clear Od Oy g NY Ob O4 r6 NZ N_ X Oi K6 F6 J Oh v0 v1 v2 O3 O1 Oc;refine Th N ?_ (fun f=>?_)
            ·trivial
            clear N K hHeld;have hHeld:=f;clear f;refine Tk 7 131 ?_;refine Tc 8 (fun K N=>?_);go_simp;refine Th N ?_ (fun f=>?_)
            ·trivial
            clear N K hHeld;have hHeld:=f;clear f;refine Tc 9 (fun K N=>?_);refine bg _ _ _ rfl rfl rfl NE ?_;refine Th N ?_ (fun f=>?_)
            ·trivial
            clear N K hHeld;have hHeld:=f;clear f;refine Tk 10 134 ?_;refine Tc 11 (fun K N=>?_);go_simp;refine Th N ?_ (fun f=>?_)
            ·trivial
            clear N K hHeld;have hHeld:=f;clear f;refine Td ?_;clear t0 u0 mr NE hHeld x1 s1;go_wp2_with fail;rw[← Ow.o];go_roundw
            case rel=>exact⟨j+1,A6,c6,_,Pf,by rw[OA.o],Oo,Oq,NU,NW,NV,Oa,Ot⟩
            case measure=>exact Ou.o
           ·go_simp
            (go_at_call 112;refine OY.mono ?_);rintro e w5 ⟨NI,NP,NM,NJ,NQ,NN,rfl,Od,Oy⟩;have g:av wk w5:=NS.trans (Oy.mono NS.size);have NY:=Oj.later g;have Ob:=Pb.keep g.size (fun b _ O=>g.block b O);have O4:aX w5 (fun b=>r+1≤b∧(Value.slice Ax j cx).ownBlock≠some b) u ⟨NI,NP,NM⟩ ⟨NJ,NQ,NN⟩:=aX.mono (fun b Y _=>⟨by have h1:=NK.o;have h2:=NS.size;have h3:w4.heap.size≤b:=Y;omega,fun e=>by have h1:=(Oj.own.row.lt b e).2;have h2:=NS.size;have h3:w4.heap.size≤b:=Y;omega⟩) _ Od;obtain⟨A6,c6,w6,r6,NZ,N_,X⟩:=bK.vL (k:=(y,⟨NI,NP,NM⟩,⟨NJ,NQ,NN⟩)) Tryz.underlying33 qV rfl (by omega) NY w5.heap.size rfl (aN NK g.size) O4 (by omega) #[.string y,.slice NI NP NM,.slice NJ NQ NN] rfl
            have Oc:=N_.size;have N9:r<w5.heap.size:=cO Ny.1 g.size;have O0:q<w5.heap.size:=cO Nz.1 g.size
            have Oi:∀ x,x≤r→(Value.slice Ax j cx).ownBlock≠some x:=fun x hx e=>by have h1:=(Oj.own.row.lt x e).1;omega
            have t0:=(g.cell (p:=⟨r,1,none⟩) Ny.1).trans s1;have K6:∀ x,x≤r→x<w5.heap.size→∀ j,w6.cell? ⟨x,j,none⟩=w5.cell? ⟨x,j,none⟩:=fun x hx hl j=>bU (a:=⟨x,j,none⟩) (X x (Oi x hx) hl).1;have F6:∀ x,x≤r→x<w5.heap.size→∀ j,w6.frozen? ⟨x,j,none⟩=w5.frozen? ⟨x,j,none⟩:=fun x hx hl j=>Eb (a:=⟨x,j,none⟩) (X x (Oi x hx) hl).1;have u0:=(K6 r (bG) N9 1).trans t0;have mr:=(F6 r (bG) N9 1).trans ((Ny.later g).2 1);obtain⟨Q,J⟩:∃ W,W=w6.setCell ⟨r,1,none⟩ (.slice A6 (j+1) c6):=⟨_,rfl⟩
            have Oh:∀ x,x≠r→Q.heap[x]?=w6.heap[x]?:=fun x hx=>by rw[J];exact cZ _ ⟨r,1,none⟩ _ x (fun e=>hx e)
            have v0:Q.cell? ⟨r,1,none⟩=some (.slice A6 (j+1) c6):=by rw[J];go_simp
            have v1:Q.cell? ⟨r,0,none⟩=some (.slice A3 i k3):=by
             rw[J,oW w6 ⟨r,1,none⟩ ⟨r,0,none⟩ _ (fun e=>by injection e with _ e;cases e),K6 r (bG) N9 0];exact (g.cell (p:=⟨r,0,none⟩) Ny.1).trans R.1
            have v2:∀ x j,x≠r→x≤r→x<wk.heap.size→Q.cell? ⟨x,j,none⟩=wk.cell? ⟨x,j,none⟩:=fun x j hx hl O=>((bU (a:=⟨x,j,none⟩) (Oh x hx)).trans (K6 x hl (cO O g.size) j)).trans (g.cell (p:=⟨x,j,none⟩) O)
            have NU:ai (Q.cell? ⟨r,0,none⟩=some (.slice A3 i k3)∧Q.cell? ⟨r,1,none⟩=some (.slice A6 (j+1) c6)∧Q.cell? ⟨q,0,none⟩=some (.slice none 0 0)∧Q.cell? ⟨q,1,none⟩=some (.slice none 0 0)):=
             ⟨v1,v0,(v2 q 0 OH (by have:=NG.o;omega) Nz.1).trans R.2.2.1,(v2 q 1 OH (by have:=NG.o;omega) Nz.1).trans R.2.2.2⟩
            have O3:Q.heap.size=w6.heap.size:=by rw[J];simp[World.setCell]
            have O1:w5.heap.size≤w6.heap.size:=Oc
            have Oo:ai (bK Q (r+1) 134 A6 (j+1) c6 (ks.take (j+1)) (kr++[(y,⟨NI,NP,NM⟩,⟨NJ,NQ,NN⟩)])):=by
             unfold ai;rw[OL.o];exact NZ.M7 (m_ r) J
            have Oq:ai (RO Q (fun b=>r+1≤b∧(Value.slice A6 (j+1) c6).ownBlock≠some b) 4 A3 i k3 (bV es)):=
             ((Ob.mono (ok':=fun b=>r+1≤b∧(Value.slice Ax j cx).ownBlock≠some b∧(Value.slice A6 (j+1) c6).ownBlock≠some b) (fun b Y O=>⟨Y.1,Y.2,(X b Y.2 O).2⟩)).keep (by omega) (fun b Y O=>(Oh b (by omega)).trans (X b Y.2.1 O).1)).mono (fun b Y _=>⟨Y.1,Y.2.2⟩)
            have NW:ai (aA r Q):=by
             unfold ai;refine⟨by omega,fun j=>?_⟩;rw[J,yY];exact (F6 r (bG) N9 j).trans ((Ny.later g).2 j)
            have NV:ai (aA q Q):=by
             unfold ai;refine⟨by omega,fun j=>?_⟩;rw[J,yY];exact (F6 q (by have:=NG.o;omega) O0 j).trans ((Nz.later g).2 j)
            have Oa:ai (r+1≤Q.heap.size):=by have:=NK.o;have:=g.size;unfold ai;omega
            have Ot:ai (av w Q):=by
             unfold ai;rw[J];exact ((HB.trans (g.mono HB.size)).trans (N_.mono (by omega))).setCell (p:=⟨r,1,none⟩) Pg _
            have Ou:ai (nk+1-dS (Q.cell? ⟨r,1,none⟩)<nk+1-dS (wk.cell? ⟨r,1,none⟩)):=by
             unfold ai;rw[v0,R.o.2.1];show nk+1-(j+1)<nk+1-j;omega
            have NE:=ah r6;have Ow:=ah J;clear Od Oy g NY Ob O4 r6 NZ N_ X Oi K6 F6 J Oh v0 v1 v2 O3 O1 Oc;refine Th N ?_ (fun f=>?_)
            ·trivial
            clear N K hHeld;have hHeld:=f;clear f;refine Tk 7 131 ?_;refine wpAnyH_ready (rs:=[1,8]) (by kernel_rfl) (by simp) ?_;refine AllReadyH.cons (o:=⟨some 125,_,_,_,_,_⟩) rfl (fun K N=>?_) (AllReadyH.cons (o:=⟨some 132,_,_,_,_,_⟩) rfl (fun K N=>?_) (AllReadyH.nil))
            ·go_simp
             refine Th N ?_ (fun f=>?_)
             ·trivial
             clear N K hHeld;have hHeld:=f;clear f;refine Tc 8 (fun K N=>?_);go_simp;refine Th N ?_ (fun f=>?_)
             ·trivial
             clear N K hHeld;have hHeld:=f;clear f;refine Tc 9 (fun K N=>?_);refine bg _ _ _ rfl rfl rfl NE ?_;refine Th N ?_ (fun f=>?_)
             ·trivial
             clear N K hHeld;have hHeld:=f;clear f;refine Tk 10 134 ?_;refine Tc 11 (fun K N=>?_);go_simp;refine Th N ?_ (fun f=>?_)
             ·trivial
             clear N K hHeld;have hHeld:=f;clear f;refine Td ?_;clear t0 u0 mr NE hHeld x1 s1;go_wp2_with fail;rw[← Ow.o];go_roundw
             case rel=>exact⟨j+1,A6,c6,_,Pf,by rw[OA.o],Oo,Oq,NU,NW,NV,Oa,Ot⟩
             case measure=>exact Ou.o
            ·go_simp
             refine Th N ?_ (fun f=>?_)
             ·trivial
             clear N K hHeld;have hHeld:=f;clear f;refine Tc 1 (fun K N=>?_);go_simp;refine Th N ?_ (fun f=>?_)
             ·trivial
             clear N K hHeld;have hHeld:=f;clear f;refine Tc 9 (fun K N=>?_);refine bg _ _ _ rfl rfl rfl NE ?_;refine Th N ?_ (fun f=>?_)
             ·trivial
             clear N K hHeld;have hHeld:=f;clear f;refine Tk 10 134 ?_;refine Tc 11 (fun K N=>?_);go_simp;refine Th N ?_ (fun f=>?_)
             ·trivial
             clear N K hHeld;have hHeld:=f;clear f;refine Td ?_;clear t0 u0 mr NE hHeld x1 s1;go_wp2_with fail;rw[← Ow.o];go_roundw
             case rel=>exact⟨j+1,A6,c6,_,Pf,by rw[OA.o],Oo,Oq,NU,NW,NV,Oa,Ot⟩
             case measure=>exact Ou.o
     | some y=>
      have OU:i<es.length:=by
       by_cases h:i<es.length
       ·exact h
       ·rw[List.getElem?_eq_none (by omega)]at G;cases G
      have Qj:es.take (i+1)=es.take i++[y]:=by
       rw[v_ OU]at G;injection G with G;rw[dZ OU,G]
      have Qr:=ah Qj
      have Qx:i+1≤ne:=by have:=O5.o;omega
      have Ps:(es.take i).length=i:=by rw[l7];omega
      obtain⟨ya,yn,yt,yv⟩:=y;have p0:wr.cell? ⟨p,0,none⟩=some (.int .i64 ya):=H.1;have p1:wr.cell? ⟨p,1,none⟩=some (.int .i64 yn):=H.2.1;have p2:wr.cell? ⟨p,2,none⟩=some (.string yt):=H.2.2.1;have p3:wr.cell? ⟨p,3,none⟩=some (.int .i64 yv):=H.2.2.2;obtain⟨A6,c6,w6,r6,PN,N_⟩:=nW wr (r+1) wr.heap.size rfl (aG HO M) Ps (aN NK M.size) (⟨ya,yn,yt,yv⟩:E) (by omega);dsimp only at r6;have P6:wr.heap.size≤w6.heap.size:=N_.size;have s1:=(M.cell (p:=⟨r,1,none⟩) Ny.1).trans R.2.1;have s2:=(M.cell (p:=⟨q,0,none⟩) Nz.1).trans R.2.2.1;have s3:=(M.cell (p:=⟨q,1,none⟩) Nz.1).trans R.2.2.2;have u0:=(N_.cell (p:=⟨r,0,none⟩) (m_ r)).trans s0;have u1:=(N_.cell (p:=⟨r,1,none⟩) (m_ r)).trans s1
      have u2:=(N_.cell (p:=⟨q,0,none⟩) (by show q<r+1;have:=NG.o;omega)).trans s2;have u3:=(N_.cell (p:=⟨q,1,none⟩) (by show q<r+1;have:=NG.o;omega)).trans s3;have OJ:=(Ny.later M).low N_ (m_ r) P6;have Pk:=(Nz.later M).low N_ (by have:=NG.o;omega) P6;have mr:=OJ.2 0;obtain⟨Q,J⟩:∃ W,W=w6.setCell ⟨r,0,none⟩ (.slice A6 (i+1) c6):=⟨_,rfl⟩
      have Qo:ai (Own Q (r+1) 97 4 A6 (i+1) c6 (bV (es.take (i+1)))):=ah (by rw[Qr.o,J];exact PN.aT (a:=⟨r,0,none⟩) (m_ r) _)
      have v0:Q.cell? ⟨r,0,none⟩=some (.slice A6 (i+1) c6):=by rw[J];go_simp
      have v1:Q.cell? ⟨r,1,none⟩=some (.slice none 0 0):=by rw[J];go_simp
      have v2:Q.cell? ⟨q,0,none⟩=some (.slice none 0 0):=by rw[J];go_simp
      have v3:Q.cell? ⟨q,1,none⟩=some (.slice none 0 0):=by rw[J];go_simp
      have NU:=ah (And.intro v0 (And.intro v1 (And.intro v2 v3)))
      have NW:ai (aA r Q):=ah (by rw[J];exact OJ.set _ _)
      have NV:ai (aA q Q):=ah (by rw[J];exact Pk.set _ _)
      have Oa:ai (r+1≤Q.heap.size):=ah (by rw[J];have h1:=NK.o;have h2:=M.size;simp[World.setCell];omega)
      have Ot:ai (av w Q):=by
       unfold ai;rw[J];exact ((HB.trans (M.mono HB.size)).trans (N_.mono (by omega))).setCell (p:=⟨r,0,none⟩) Pg _
      have NE:=ah r6;have Ow:=ah J
      have Ou:ai (ne+1-dS (Q.cell? ⟨r,0,none⟩)<ne+1-dS (wo.cell? ⟨r,0,none⟩)):=by
       unfold ai;rw[v0,R.o.1];show ne+1-(i+1)<ne+1-i;omega
      clear G Qj OU Ps r6 PN N_ P6 s1 s2 s3 u1 u2 u3 OJ Pk J v0 v1 v2 v3;go_wp2_with (at_builtin;refine Lib.wpList_append_run _ rfl _ _ _ _ rfl _ _ rfl rfl _ _ NE ?_);rw[← Ow.o];go_roundw
      case rel=>exact⟨i+1,A6,c6,Qx,Qo,NU,NW,NV,Oa,Ot⟩
      case measure=>exact Ou.o
theorem GQ (d:Nat) (t:T) (g:au d t) (A:Option Addr) (n c:Nat) (w:World) (f:nodes t≤100000) (a:mh w w.heap.size A n c (leaves t)) :
  Calls Tryz.prog 112 #[.slice A n c] w fun e w'=>∃ Ae ne ce Ak nk ck,e = .returned (.agg #[.slice Ae ne ce,.slice Ak nk ck])∧aX w' (fun b=>w.heap.size≤b) t ⟨Ae,ne,ce⟩ ⟨Ak,nk,ck⟩∧av w w':=
 BU d t g (leaves t) (fun _=>Iff.rfl) A n c w (by have h1:=a.1;have h2:=dw t;omega) f a
end Tr
end Go.Proofs.YtgeafpaognhokaaGreat
