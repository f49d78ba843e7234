/- Trees: built of leaves: the document's. -/
import Derived.Test.YtgeafpaognhokaaGreatG00
import Derived.Test.YtgeafpaognhokaaGreatG20
namespace Go.Proofs.YtgeafpaognhokaaGreat
open Go.ChangeShapes Go.WideShapes Go.ChangeAt Go.RowKit
namespace Tr
open Sp Rw
theorem rootE_mem {ls ls2:List Lf} (hm:∀ x,x∈ls↔x∈ls2) (x:E):x∈rootE ls↔x∈rootE ls2:=by
 unfold rootE;simp only[List.mem_filterMap,hm]
theorem heads_mem {ls ls2:List Lf} (hm:∀ x,x∈ls↔x∈ls2) (x:ByteArray):x∈heads ls↔x∈heads ls2:=by
 unfold heads;simp only[List.mem_filterMap,hm]
theorem under_mem {ls ls2:List Lf} (hm:∀ x,x∈ls↔x∈ls2) (y:ByteArray) (x:Lf):x∈under ls y↔x∈under ls2 y:=by
 unfold under;simp only[List.mem_filterMap,hm]
theorem best_ent2 {d:Nat} {es:List E} {ks:List (ByteArray×T)} {ls:List Lf} (hm:∀ x,x∈ls↔x∈leaves (.mk es ks)) (h:RightT (d+1) (.mk es ks)) {i:Nat} (hi:i≤es.length) {r:Option E} (hr:LeastOf ltE (rootE ls) (Abv ltE es i) r):r=es[i]?:=
 least_at ltE_irr (fun _ _ _=>ltE_tr) (fun x=>by rw[rootE_mem hm,rootE_leaves]) h.2.1 hi hr
theorem best_key2 {d:Nat} {es:List E} {ks:List (ByteArray×T)} {ls:List Lf} (hm:∀ x,x∈ls↔x∈leaves (.mk es ks)) (h:RightT (d+1) (.mk es ks)) {j:Nat} (hj:j≤ks.length) {r:Option ByteArray} (hr:LeastOf ltS (heads ls) (Abv ltS (ks.map fun x=>x.1) j) r):r=(ks.map fun x=>x.1)[j]?:=
 least_at tot_str.irr (fun _ _ _=>tot_str.tr _ _ _) (fun x=>by rw[heads_mem hm,heads_leaves h]) (List.pairwise_map.2 h.2.2.1) (by rw[List.length_map];exact hj) hr
set_option maxRecDepth 100000 in
set_option maxHeartbeats 4000000 in
theorem build_of:∀ (d:Nat) (t:T),RightT d t→∀ (ls:List Lf),(∀ x,x∈ls↔x∈leaves t)→∀ (A:Option Addr) (n c:Nat) (w:World),n≤100000→nodes t≤100000→LfRd w w.heap.size A n c ls →
  Calls Tryz.prog 112 #[.slice A n c] w fun e w'=>∃ Ae ne ce Ak nk ck,e = .returned (.agg #[.slice Ae ne ce,.slice Ak nk ck])∧RdO w' (fun b=>w.heap.size≤b) t ⟨Ae,ne,ce⟩ ⟨Ak,nk,ck⟩∧Below w.heap.size w w':=by
 intro d
 induction d with
 | zero=>intro t ht;exact ht.elim
 | succ d ih=>
  intro t ht ls hm A n c w hn5 hn hl;obtain⟨es,ks⟩:=t;have HT:=Lib.hid ht;have HN:=Lib.hid hn;have HIH:=Lib.hid ih;have HL:=Lib.hid hl;have HLN:=Lib.hid hl.1;have HM:=Lib.hid hm;obtain⟨ne,hne⟩:∃ z,z=es.length:=⟨_,rfl⟩;obtain⟨nk,hnk⟩:∃ z,z=ks.length:=⟨_,rfl⟩;have HLE:=Lib.hid hne;have HLK:=Lib.hid hnk
  have hne5:ne≤100000:=by have:=nodes_es es ks;omega
  have hnk5:nk≤100000:=by have:=nodes_es es ks;omega
  clear ht hn ih hl hne hnk hm;obtain⟨q,hq⟩:∃ q,q=w.heap.size:=⟨_,rfl⟩;obtain⟨W1,hW1⟩:∃ W,W=w.alloc (.cells #[.slice none 0 0,.slice none 0 0] 35):=⟨_,rfl⟩;obtain⟨r,hr⟩:∃ r,r=W1.heap.size:=⟨_,rfl⟩;obtain⟨W2,hW2⟩:∃ W,W=W1.alloc (.cells #[.slice none 0 0,.slice none 0 0] 35):=⟨_,rfl⟩
  have hb1:Below w.heap.size w W1:=by rw[hW1];exact Dt.box_below _ _ _
  have hb2:Below W1.heap.size W1 W2:=by rw[hW2];exact Dt.box_below _ _ _
  have hs1:W1.heap.size=q+1:=by rw[hW1,hq];simp
  have hs2:W2.heap.size=r+1:=by rw[hW2,hr];simp
  have f0:W1.cell? ⟨q,0,none⟩=some (.slice none 0 0):=by rw[hW1,hq];go_simp
  have f1:W1.cell? ⟨q,1,none⟩=some (.slice none 0 0):=by rw[hW1,hq];go_simp
  have q0:=(hb2.cell (p:=⟨q,0,none⟩) (by show q<_;omega)).trans f0;have q1:=(hb2.cell (p:=⟨q,1,none⟩) (by show q<_;omega)).trans f1
  have r0:W2.cell? ⟨r,0,none⟩=some (.slice none 0 0):=by rw[hW2,hr];go_simp
  have r1:W2.cell? ⟨r,1,none⟩=some (.slice none 0 0):=by rw[hW2,hr];go_simp
  have HFQ2:Hid (Free q W2):=(show Free q W1 from⟨by omega,fun j=>by rw[hW1,hq];go_simp⟩).later hb2;have HFR2:Hid (Free r W2):=⟨by omega,fun j=>by rw[hW2,hr];go_simp⟩;have HY:=Lib.hid (And.intro r0 (And.intro r1 (And.intro q0 q1)));have HB2:=Lib.hid (hb1.trans (hb2.mono hb1.size))
  have HR3:Hid (r=q+1):=by unfold Hid;omega
  have HSW2:Hid (r+1≤W2.heap.size):=by unfold Hid;omega
  have HQ:=Lib.hid hq;have HW1:=Lib.hid hW1;have HW2:=Lib.hid hW2
  have hqr:q≠r:=by omega
  have hqr2:¬r=q:=by omega
  have hwq:w.heap.size≤q:=by omega
  have hwr:w.heap.size≤r:=by omega
  clear hq hW1 hr hW2 hb1 hb2 hs1 hs2 f0 f1 q0 q1 r0 r1;go_enter Tryz.func112,Tryz.ntmps112;go_wp2_with fail;rw[← HQ.out,← HW1.out,← HR3.out,← HW2.out]
  go_loopw [] (fun wr=>∃ (i:Nat) (A3:Option Addr) (k3:Nat),i≤ne∧Hid (Own wr (r+1) 97 4 A3 i k3 (entsC (es.take i)))∧Hid (wr.cell? ⟨r,0,none⟩=some (.slice A3 i k3)∧wr.cell? ⟨r,1,none⟩=some (.slice none 0 0)∧wr.cell? ⟨q,0,none⟩=some (.slice none 0 0)∧wr.cell? ⟨q,1,none⟩=some (.slice none 0 0))∧Hid (Free r wr)∧Hid (Free q wr)∧Hid (r+1≤wr.heap.size)∧Hid (Below w.heap.size w wr)) (fun wr=>ne+1-cntOf (wr.cell? ⟨r,0,none⟩))
  case atStart=>exact⟨0,none,0,by omega,⟨World.ownsRow_nil _ _ _ _,by simp[entsC]⟩,HY.out,HFR2.out,HFQ2.out,HSW2.out,HB2.out⟩
  case round=>
   obtain⟨i,A3,k3,hi,HO,HCC,HFR,HFQ,HSZ,HB⟩:=hrel;obtain⟨wo,hwo⟩:∃ W,W=wr:=⟨_,rfl⟩;subst hwo;obtain⟨p,hp⟩:∃ p,p=wo.heap.size:=⟨_,rfl⟩;obtain⟨Wp,hWp⟩:∃ W,W=wo.alloc (.cells #[.int .i64 0,.int .i64 0,.string ⟨#[]⟩,.int .i64 0] 97):=⟨_,rfl⟩
   have hbp:Below wo.heap.size wo Wp:=by rw[hWp];exact Dt.box_below _ _ _
   have HP4:Hid (Wp.cell? ⟨p,0,none⟩=some (.int .i64 (bestE none).a)∧Wp.cell? ⟨p,1,none⟩=some (.int .i64 (bestE none).n)∧Wp.cell? ⟨p,2,none⟩=some (.string (bestE none).s)∧Wp.cell? ⟨p,3,none⟩=some (.int .i64 (bestE none).v)):=by
    unfold Hid;rw[hWp,hp];exact⟨by go_simp;rfl,by go_simp;rfl,by go_simp;rfl,by go_simp;rfl⟩
   have HFP:Hid (Free p Wp):=⟨by rw[hWp,hp];simp,fun j=>by rw[hWp,hp];go_simp⟩
   have hrp:r<p:=by have:=HFR.out.1;omega
   have hqp:q<p:=by have:=HFQ.out.1;omega
   have hrp2:¬r=p:=by omega
   have hpr2:¬p=r:=by omega
   have HBP:=Lib.hid hbp;have HPP:=Lib.hid hp;have HWP:=Lib.hid hWp;clear hp hWp hbp;go_wp2_with fail;rw[← HPP.out,← HWP.out]
   go_loopw [5,13] (fun s z wr=>∃ (k:Nat) (x:Option E),k≤n∧z = .int .i64 k∧s = .bool x.isSome∧Hid (LeastOf ltE (rootE (ls.take k)) (Abv ltE es i) x)∧Hid (wr.cell? ⟨p,0,none⟩=some (.int .i64 (bestE x).a)∧wr.cell? ⟨p,1,none⟩=some (.int .i64 (bestE x).n)∧wr.cell? ⟨p,2,none⟩=some (.string (bestE x).s)∧wr.cell? ⟨p,3,none⟩=some (.int .i64 (bestE x).v))∧Hid (Free p wr)∧Hid (Below wo.heap.size wo wr)) (fun _ z _=>n-(intOf z).toNat)
   case atStart=>exact⟨0,none,by omega,rfl,rfl,by unfold Hid;intro y hy;simp[rootE]at hy,HP4.out,HFP.out,HBP.out⟩
   case round=>
    obtain⟨k,x,hk,rfl,rfl,HLO,HPC,HFP,HBI⟩:=hrel;have HR0:=Lib.hid ((HBI.out.cell (p:=⟨r,0,none⟩) HFR.out.1).trans HCC.out.1)
    by_cases hlt:k<n
    ·have hkl:k<ls.length:=by rw[HLN.out];exact hlt
     obtain⟨b,o,rfl,hb,hc⟩:=LfRd.at_ HL.out (by omega);obtain⟨⟨Ap,np,cp⟩,c0,c1,c2,c3,c4,hpl,_⟩:=hc k hkl;dsimp only at c0 hpl;have hbw:=HB.out.trans (HBI.out.mono HB.out.size);have c0:=(hbw.cell (p:=⟨b,o+k*5,none⟩) hb).trans c0;have c1:=(hbw.cell (p:=⟨b,o+k*5+1,none⟩) hb).trans c1;have c2:=(hbw.cell (p:=⟨b,o+k*5+2,none⟩) hb).trans c2;have c3:=(hbw.cell (p:=⟨b,o+k*5+3,none⟩) hb).trans c3;have c4:=(hbw.cell (p:=⟨b,o+k*5+4,none⟩) hb).trans c4;have hsuc:=rootE_succ hkl;obtain⟨lf,hlf⟩:∃ z,z=ls[k]:=⟨_,rfl⟩;rw[← hlf]at c1 c2 c3 c4 hpl hsuc;obtain⟨pa,ea,en,et,ev⟩:=lf;dsimp only at c1 c2 c3 c4 hpl
     have hbp:b<p:=by have h1:=HPP.out;have h2:=HB.out.size;omega
     have hbp2:¬b=p:=by omega
     have hpb2:¬p=b:=by omega
     clear hc hlf hbw
     cases pa with
     | cons k0 pa=>
      have hnp0:0<np:=by rw[← hpl];exact Nat.succ_pos _
      have HLO2:Hid (LeastOf ltE (rootE (ls.take (k+1))) (Abv ltE es i) x):=by unfold Hid;rw[hsuc];have h1:rootE [(k0::pa,(⟨ea,en,et,ev⟩:E))]=[]:=rfl;rw[h1,List.append_nil];exact HLO.out
      have s0:=HR0.out
      have fz:((np:Int)==0)=false:=by rw[beq_eq_false_iff_ne];omega
      have HKc:Hid (Kept [(⟨b,o+k*5,none⟩,.slice Ap np cp)] wr wr.drew):=by exact ((Kept.nil wr).cons_of c0).drew
      clear hsuc hpl;go_wp2_with fail;refine wp_region_held_drew (S:=fun W=>W.cell? ⟨b,o+k*5,none⟩=some (.slice Ap np cp)) (by kernel_rfl) (by go_keep) (fun hHeld=>?_);refine Tk 0 19 ?_;refine Tk 1 20 ?_;refine Tk 2 21 ?_;refine Tk 3 22 ?_;refine Tk 4 23 ?_;refine Tk 5 24 ?_;refine Tk 6 25 ?_;refine Tk 7 26 ?_;refine Tn 8 27 ?_;refine Tn 9 28 ?_;refine Tn 10 29 ?_;refine Tn 11 30 ?_;refine Tn 12 31 ?_;refine Tn 13 32 ?_;refine Tn 14 33 ?_;refine Tn 15 34 ?_;refine Tn 16 35 ?_;refine Tn 17 36 ?_;refine Tn 18 37 ?_;refine Tn 19 38 ?_;refine Tn 20 39 ?_;refine Tn 21 40 ?_;refine Tn 22 41 ?_;refine Tn 23 42 ?_;refine Tn 24 43 ?_;refine Tn 25 44 ?_;refine Tk 26 45 ?_;refine Tk 27 46 ?_;refine Tn 28 47 ?_;refine Tn 29 48 ?_;refine Tn 30 49 ?_;refine Tn 31 50 ?_;refine Tn 32 51 ?_;refine Tn 33 52 ?_;refine Tn 34 53 ?_;refine Tn 35 54 ?_;refine Tn 36 55 ?_
      refine Tn 37 56 ?_;refine Tn 38 57 ?_;refine Tn 39 58 ?_;refine Tn 40 59 ?_;refine Tk 41 60 ?_;refine wpAnyH_done (by kernel_rfl) ?_ _;have hbv:=HKc.out.below;have HB3:=Lib.hid (HBI.out.trans (hbv.mono HBI.out.size));have HFP3:=Lib.hid (HFP.out.later hbv);have HPC3:=Lib.hid (And.intro ((hbv.cell (p:=⟨p,0,none⟩) HFP.out.1).trans HPC.out.1) (And.intro ((hbv.cell (p:=⟨p,1,none⟩) HFP.out.1).trans HPC.out.2.1) (And.intro ((hbv.cell (p:=⟨p,2,none⟩) HFP.out.1).trans HPC.out.2.2.1) ((hbv.cell (p:=⟨p,3,none⟩) HFP.out.1).trans HPC.out.2.2.2))));clear hbv;clear hHeld;go_wp2_with fail;go_roundw
      case rel=>exact⟨k+1,x,by omega,by go_num,rfl,HLO2.out,HPC3.out,HFP3.out,HB3.out⟩
      case measure=>simp[intOf];omega
     | nil=>
      have hnp:np=0:=by rw[← hpl];rfl
      subst hnp;have hsuc1:rootE (ls.take (k+1))=rootE (ls.take k)++[(⟨ea,en,et,ev⟩:E)]:=hsuc;have HSUC:=Lib.hid hsuc1;clear hsuc hsuc1 hpl;have s0:=HR0.out;have p0:=HPC.out.1;have p1:=HPC.out.2.1;have p2:=HPC.out.2.2.1;have p3:=HPC.out.2.2.2;have m0:=HFP.out.2 0;have m1:=HFP.out.2 1;have m2:=HFP.out.2 2;have m3:=HFP.out.2 3
      by_cases hi0:i=0
      ·subst hi0
       have HAB:Hid (Abv ltE es 0 (⟨ea,en,et,ev⟩:E)):=fun h _=>absurd h (by omega)
       cases x with
       | none=>
        have HKc:Hid (Kept [(⟨b,o+k*5,none⟩,.slice Ap 0 cp),(⟨b,o+k*5+1,none⟩,.int .i64 ea),(⟨b,o+k*5+2,none⟩,.int .i64 en),(⟨b,o+k*5+3,none⟩,.string et),(⟨b,o+k*5+4,none⟩,.int .i64 ev)] wr wr.drew):=by exact ((((((Kept.nil wr).cons_of c4).cons_of c3).cons_of c2).cons_of c1).cons_of c0).drew
        go_wp2_with fail;refine wp_region_held_drew (S:=fun W=>W.cell? ⟨b,o+k*5,none⟩=some (.slice Ap 0 cp)∧W.cell? ⟨b,o+k*5+1,none⟩=some (.int .i64 ea)∧W.cell? ⟨b,o+k*5+2,none⟩=some (.int .i64 en)∧W.cell? ⟨b,o+k*5+3,none⟩=some (.string et)∧W.cell? ⟨b,o+k*5+4,none⟩=some (.int .i64 ev)) (by kernel_rfl) (by go_keep) (fun hHeld=>?_);refine Tk 0 19 ?_;refine Tk 1 20 ?_;refine Tk 2 21 ?_;refine Tk 3 22 ?_;refine Tk 4 23 ?_;refine Tk 5 24 ?_;refine Tk 6 25 ?_;refine Tk 7 26 ?_;refine Tk 8 27 ?_;refine Tk 9 28 ?_;refine Tk 10 29 ?_;refine Tn 11 30 ?_;refine Tn 12 31 ?_;refine Tn 13 32 ?_;refine Tn 14 33 ?_;refine Tn 15 34 ?_;refine Tn 16 35 ?_;refine Tn 17 36 ?_;refine Tn 18 37 ?_;refine Tn 19 38 ?_;refine Tn 20 39 ?_;refine Tn 21 40 ?_;refine Tn 22 41 ?_;refine Tn 23 42 ?_;refine Tn 24 43 ?_;refine Tk 25 44 ?_
        refine Tk 26 45 ?_;refine Tk 27 46 ?_;refine Tk 28 47 ?_;refine Tk 29 48 ?_;refine Tk 30 49 ?_;refine Tn 31 50 ?_;refine Tn 32 51 ?_;refine Tn 33 52 ?_;refine Tn 34 53 ?_;refine Tn 35 54 ?_;refine Tn 36 55 ?_;refine Tn 37 56 ?_;refine Tn 38 57 ?_;refine Tn 39 58 ?_;refine Tk 40 59 ?_;refine Tk 41 60 ?_;refine wpAnyH_done (by kernel_rfl) ?_ _;have hbv:=HKc.out.below;have HB3:=Lib.hid (HBI.out.trans (hbv.mono HBI.out.size));have HFP3:=Lib.hid (HFP.out.later hbv);have HPC3:=Lib.hid (And.intro ((hbv.cell (p:=⟨p,0,none⟩) HFP.out.1).trans HPC.out.1) (And.intro ((hbv.cell (p:=⟨p,1,none⟩) HFP.out.1).trans HPC.out.2.1) (And.intro ((hbv.cell (p:=⟨p,2,none⟩) HFP.out.1).trans HPC.out.2.2.1) ((hbv.cell (p:=⟨p,3,none⟩) HFP.out.1).trans HPC.out.2.2.2))));clear hbv;have e1:=HKc.out.c1;have e2:=HKc.out.c2;have e3:=HKc.out.c3;have e4:=HKc.out.c4
        have y0:=HPC3.out.1;have y1:=HPC3.out.2.1;have y2:=HPC3.out.2.2.1;have y3:=HPC3.out.2.2.2;have m0:=HFP3.out.2 0;have m1:=HFP3.out.2 1;have m2:=HFP3.out.2 2;have m3:=HFP3.out.2 3
        have HLO2:Hid (LeastOf ltE (rootE (ls.take (k+1))) (Abv ltE es 0) (some (⟨ea,en,et,ev⟩:E))):=by unfold Hid;rw[HSUC.out];exact least_new ltE_irr HAB.out HLO.out
        obtain⟨wv,hwv⟩:∃ W,W=wr.drew:=⟨_,rfl⟩;obtain⟨W5,hW5⟩:∃ W,W=(((wr.drew.setCell ⟨p,0,none⟩ (.int .i64 ea)).setCell ⟨p,1,none⟩ (.int .i64 en)).setCell ⟨p,2,none⟩ (.string et)).setCell ⟨p,3,none⟩ (.int .i64 ev):=⟨_,rfl⟩
        have HPC3:Hid (W5.cell? ⟨p,0,none⟩=some (.int .i64 (bestE (some ⟨ea,en,et,ev⟩)).a)∧W5.cell? ⟨p,1,none⟩=some (.int .i64 (bestE (some ⟨ea,en,et,ev⟩)).n)∧W5.cell? ⟨p,2,none⟩=some (.string (bestE (some ⟨ea,en,et,ev⟩)).s)∧W5.cell? ⟨p,3,none⟩=some (.int .i64 (bestE (some ⟨ea,en,et,ev⟩)).v)):=by
         unfold Hid;rw[hW5];exact⟨by go_simp;try rfl,by go_simp;try rfl,by go_simp;try rfl,by go_simp;try rfl⟩
        have HFP3:Hid (Free p W5):=by unfold Hid;rw[hW5];exact (((HFP3.out.set _ _).set _ _).set _ _).set _ _
        have HB3:Hid (Below wo.heap.size wo W5):=by
         unfold Hid;rw[hW5]
         have hpp:wo.heap.size≤p:=by have:=HPP.out;omega
         exact (((HB3.out.setCell (p:=⟨p,0,none⟩) hpp _).setCell (p:=⟨p,1,none⟩) hpp _).setCell (p:=⟨p,2,none⟩) hpp _).setCell (p:=⟨p,3,none⟩) hpp _
        have HW5:Hid (W5=((((wr.setCell ⟨p,0,none⟩ (.int .i64 ea)).setCell ⟨p,1,none⟩ (.int .i64 en)).setCell ⟨p,2,none⟩ (.string et)).setCell ⟨p,3,none⟩ (.int .i64 ev)).drew):=hW5.trans rfl;clear hHeld hW5 hwv;go_wp2_with fail;rw[← HW5.out];go_roundw
        case rel=>exact⟨k+1,some ⟨ea,en,et,ev⟩,by omega,by go_num,rfl,HLO2.out,HPC3.out,HFP3.out,HB3.out⟩
        case measure=>simp[intOf];omega
       | some y=>
        obtain⟨ya,yn,yt,yv⟩:=y;obtain⟨l2,hl2⟩:∃ z,Dt.lessB ea en ya yn=z:=⟨_,rfl⟩;have HL2:=Lib.hid hl2;clear hl2
        replace p0:wr.cell? ⟨p,0,none⟩=some (.int .i64 ya):=p0
        replace p1:wr.cell? ⟨p,1,none⟩=some (.int .i64 yn):=p1
        replace p2:wr.cell? ⟨p,2,none⟩=some (.string yt):=p2
        replace p3:wr.cell? ⟨p,3,none⟩=some (.int .i64 yv):=p3
        have HKc:Hid (Kept [(⟨b,o+k*5,none⟩,.slice Ap 0 cp),(⟨b,o+k*5+1,none⟩,.int .i64 ea),(⟨b,o+k*5+2,none⟩,.int .i64 en),(⟨b,o+k*5+3,none⟩,.string et),(⟨b,o+k*5+4,none⟩,.int .i64 ev),(⟨p,0,none⟩,.int .i64 ya),(⟨p,1,none⟩,.int .i64 yn)] wr wr.drew):=by exact ((((((((Kept.nil wr).cons_of p1).cons_of p0).cons_of c4).cons_of c3).cons_of c2).cons_of c1).cons_of c0).drew
        go_wp2_with fail;refine wp_region_held_drew (S:=fun W=>W.cell? ⟨b,o+k*5,none⟩=some (.slice Ap 0 cp)∧W.cell? ⟨b,o+k*5+1,none⟩=some (.int .i64 ea)∧W.cell? ⟨b,o+k*5+2,none⟩=some (.int .i64 en)∧W.cell? ⟨b,o+k*5+3,none⟩=some (.string et)∧W.cell? ⟨b,o+k*5+4,none⟩=some (.int .i64 ev)∧W.cell? ⟨p,0,none⟩=some (.int .i64 ya)∧W.cell? ⟨p,1,none⟩=some (.int .i64 yn)) (by kernel_rfl) (by go_keep) (fun hHeld=>?_);refine Tk 0 19 ?_;refine Tk 1 20 ?_;refine Tk 2 21 ?_;refine Tk 3 22 ?_;refine Tk 4 23 ?_;refine Tk 5 24 ?_;refine Tk 6 25 ?_;refine Tk 7 26 ?_;refine Tk 8 27 ?_;refine Tk 9 28 ?_;refine Tk 10 29 ?_;refine Tn 11 30 ?_;refine Tn 12 31 ?_;refine Tn 13 32 ?_;refine Tn 14 33 ?_;refine Tn 15 34 ?_;refine Tn 16 35 ?_;refine Tn 17 36 ?_;refine Tn 18 37 ?_;refine Tn 19 38 ?_;refine Tn 20 39 ?_;refine Tn 21 40 ?_
        refine Tn 22 41 ?_;refine Tn 23 42 ?_;refine Tn 24 43 ?_;refine Tk 25 44 ?_;refine Tk 26 45 ?_;refine Tk 27 46 ?_;refine Tk 28 47 ?_;refine Tk 29 48 ?_;refine Tk 30 49 ?_;refine Tk 31 50 ?_;refine Tk 32 51 ?_;refine Tk 33 52 ?_;refine Tk 34 53 ?_;refine Tk 35 54 ?_;refine Tk 36 55 ?_;refine Tk 37 56 ?_;refine Tk 38 57 ?_;refine Tc 39 (fun K hK=>?_);go_simp;(go_at_call 120;refine (Dt.less_any ea en ya yn _).mono ?_);rw[HL2.out];rintro e v2 ⟨rfl,hb9⟩;have HKc:=Lib.hid (HKc.out.later hb9);clear hb9;clear hHeld;refine Th hK ?_ (fun hHeld=>?_)
        ·exact⟨HKc.out.c0,HKc.out.c1,HKc.out.c2,HKc.out.c3,HKc.out.c4,HKc.out.c5,HKc.out.c6⟩
        clear hK K;refine Tk 40 59 ?_;refine Tk 41 60 ?_;refine wpAnyH_done (by kernel_rfl) ?_ _
        cases l2 with
        | false=>
         have HLO2:Hid (LeastOf ltE (rootE (ls.take (k+1))) (Abv ltE es 0) (some ⟨ya,yn,yt,yv⟩)):=by unfold Hid;rw[HSUC.out];exact least_not (fun h=>by have h2:Dt.lessB ea en ya yn=true:=h;rw[HL2.out]at h2;cases h2) HLO.out
         have hbv:=HKc.out.below;have HB3:=Lib.hid (HBI.out.trans (hbv.mono HBI.out.size));have HFP3:=Lib.hid (HFP.out.later hbv);have HPC3:=Lib.hid (And.intro ((hbv.cell (p:=⟨p,0,none⟩) HFP.out.1).trans HPC.out.1) (And.intro ((hbv.cell (p:=⟨p,1,none⟩) HFP.out.1).trans HPC.out.2.1) (And.intro ((hbv.cell (p:=⟨p,2,none⟩) HFP.out.1).trans HPC.out.2.2.1) ((hbv.cell (p:=⟨p,3,none⟩) HFP.out.1).trans HPC.out.2.2.2))));clear hbv;clear hHeld;go_wp2_with fail;go_roundw
         case rel=>exact⟨k+1,(some ⟨ya,yn,yt,yv⟩),by omega,by go_num,rfl,HLO2.out,HPC3.out,HFP3.out,HB3.out⟩
         case measure=>simp[intOf];omega
        | true=>
         have hbv:=HKc.out.below;have HB3:=Lib.hid (HBI.out.trans (hbv.mono HBI.out.size));have HFP3:=Lib.hid (HFP.out.later hbv);have HPC3:=Lib.hid (And.intro ((hbv.cell (p:=⟨p,0,none⟩) HFP.out.1).trans HPC.out.1) (And.intro ((hbv.cell (p:=⟨p,1,none⟩) HFP.out.1).trans HPC.out.2.1) (And.intro ((hbv.cell (p:=⟨p,2,none⟩) HFP.out.1).trans HPC.out.2.2.1) ((hbv.cell (p:=⟨p,3,none⟩) HFP.out.1).trans HPC.out.2.2.2))));clear hbv;have e1:=HKc.out.c1;have e2:=HKc.out.c2;have e3:=HKc.out.c3;have e4:=HKc.out.c4;have y0:=HPC3.out.1;have y1:=HPC3.out.2.1;have y2:=HPC3.out.2.2.1;have y3:=HPC3.out.2.2.2;have m0:=HFP3.out.2 0;have m1:=HFP3.out.2 1;have m2:=HFP3.out.2 2;have m3:=HFP3.out.2 3
         have HLO2:Hid (LeastOf ltE (rootE (ls.take (k+1))) (Abv ltE es 0) (some (⟨ea,en,et,ev⟩:E))):=by unfold Hid;rw[HSUC.out];exact least_less ltE_irr (fun _ _ _=>ltE_tr) HAB.out (show ltE (⟨ea,en,et,ev⟩:E) (⟨ya,yn,yt,yv⟩:E) from HL2.out) HLO.out
         obtain⟨wv,hwv⟩:∃ W,W=v2:=⟨_,rfl⟩;obtain⟨W5,hW5⟩:∃ W,W=(((v2.setCell ⟨p,0,none⟩ (.int .i64 ea)).setCell ⟨p,1,none⟩ (.int .i64 en)).setCell ⟨p,2,none⟩ (.string et)).setCell ⟨p,3,none⟩ (.int .i64 ev):=⟨_,rfl⟩
         have HPC3:Hid (W5.cell? ⟨p,0,none⟩=some (.int .i64 (bestE (some ⟨ea,en,et,ev⟩)).a)∧W5.cell? ⟨p,1,none⟩=some (.int .i64 (bestE (some ⟨ea,en,et,ev⟩)).n)∧W5.cell? ⟨p,2,none⟩=some (.string (bestE (some ⟨ea,en,et,ev⟩)).s)∧W5.cell? ⟨p,3,none⟩=some (.int .i64 (bestE (some ⟨ea,en,et,ev⟩)).v)):=by
          unfold Hid;rw[hW5];exact⟨by go_simp;try rfl,by go_simp;try rfl,by go_simp;try rfl,by go_simp;try rfl⟩
         have HFP3:Hid (Free p W5):=by unfold Hid;rw[hW5];exact (((HFP3.out.set _ _).set _ _).set _ _).set _ _
         have HB3:Hid (Below wo.heap.size wo W5):=by
          unfold Hid;rw[hW5]
          have hpp:wo.heap.size≤p:=by have:=HPP.out;omega
          exact (((HB3.out.setCell (p:=⟨p,0,none⟩) hpp _).setCell (p:=⟨p,1,none⟩) hpp _).setCell (p:=⟨p,2,none⟩) hpp _).setCell (p:=⟨p,3,none⟩) hpp _
         have HW5:Hid (W5=(((v2.setCell ⟨p,0,none⟩ (.int .i64 ea)).setCell ⟨p,1,none⟩ (.int .i64 en)).setCell ⟨p,2,none⟩ (.string et)).setCell ⟨p,3,none⟩ (.int .i64 ev)):=hW5.trans rfl;clear hHeld hW5 hwv;go_wp2_with fail;rw[← HW5.out];go_roundw
         case rel=>exact⟨k+1,some ⟨ea,en,et,ev⟩,by omega,by go_num,rfl,HLO2.out,HPC3.out,HFP3.out,HB3.out⟩
         case measure=>simp[intOf];omega
      ·have fi:((i:Int)==0)=false:=by rw[beq_eq_false_iff_ne];omega
       obtain⟨b2,o2,eA,hb2,hc2⟩:=rd_elem entC_len HO.out.rd (m:=i-1) (by omega)
       have hil:i-1<(es.take i).length:=by rw[List.length_take,← HLE.out];omega
       have hil2:i-1<es.length:=by rw[← HLE.out];omega
       subst eA;have d0:=(HBI.out.cell (p:=⟨b2,o2+(i-1)*4,none⟩) hb2).trans (hc2 (i-1) hil 0 _ rfl);have d1:=(HBI.out.cell (p:=⟨b2,o2+(i-1)*4+1,none⟩) hb2).trans (hc2 (i-1) hil 1 _ rfl);rw[List.getElem_take]at d0 d1
       have HAB:Hid (Abv ltE es i (⟨ea,en,et,ev⟩:E)↔Dt.lessB (es[i-1]).a (es[i-1]).n ea en=true):=by
        unfold Hid Abv;exact⟨fun h=>h (by omega) hil2,fun h _ _=>h⟩
       obtain⟨la,hla⟩:∃ z,z=(es[i-1]).a:=⟨_,rfl⟩;obtain⟨ln,hln⟩:∃ z,z=(es[i-1]).n:=⟨_,rfl⟩;rw[← hla]at d0 HAB;rw[← hln]at d1 HAB;obtain⟨l1,hl1⟩:∃ z,Dt.lessB la ln ea en=z:=⟨_,rfl⟩;have HL1:=Lib.hid hl1
       have hb2p:b2<p:=by have h1:=HPP.out;omega
       have hkm:IntKind.i64.wrap ((i:Int)-1)=((i-1:Nat):Int):=by rw[IntKind.wrap_i64];omega
       have hkm2:((i-1:Nat):Int)<(i:Int):=by omega
       have hkm3:(0:Int)≤((i-1:Nat):Int):=by omega
       have hbz:¬b2=p:=by omega
       have hbz2:¬p=b2:=by omega
       clear hc2 hla hln hl1
       cases x with
       | none=>
        have HKc:Hid (Kept [(⟨b,o+k*5,none⟩,.slice Ap 0 cp),(⟨b,o+k*5+1,none⟩,.int .i64 ea),(⟨b,o+k*5+2,none⟩,.int .i64 en),(⟨b,o+k*5+3,none⟩,.string et),(⟨b,o+k*5+4,none⟩,.int .i64 ev),(⟨r,0,none⟩,.slice (some ⟨b2,o2,none⟩) i k3),(⟨b2,o2+(i-1)*4,none⟩,.int .i64 la),(⟨b2,o2+(i-1)*4+1,none⟩,.int .i64 ln)] wr wr.drew):=by exact (((((((((Kept.nil wr).cons_of d1).cons_of d0).cons_of s0).cons_of c4).cons_of c3).cons_of c2).cons_of c1).cons_of c0).drew
        go_wp2_with fail;refine wp_region_held_drew (S:=fun W=>W.cell? ⟨b,o+k*5,none⟩=some (.slice Ap 0 cp)∧W.cell? ⟨b,o+k*5+1,none⟩=some (.int .i64 ea)∧W.cell? ⟨b,o+k*5+2,none⟩=some (.int .i64 en)∧W.cell? ⟨b,o+k*5+3,none⟩=some (.string et)∧W.cell? ⟨b,o+k*5+4,none⟩=some (.int .i64 ev)∧W.cell? ⟨r,0,none⟩=some (.slice (some ⟨b2,o2,none⟩) i k3)∧W.cell? ⟨b2,o2+(i-1)*4,none⟩=some (.int .i64 la)∧W.cell? ⟨b2,o2+(i-1)*4+1,none⟩=some (.int .i64 ln)) (by kernel_rfl) (by go_keep) (fun hHeld=>?_);refine Tk 0 19 ?_;refine Tk 1 20 ?_;refine Tk 2 21 ?_;refine Tk 3 22 ?_;refine Tk 4 23 ?_;refine Tk 5 24 ?_;refine Tk 6 25 ?_;refine Tk 7 26 ?_;refine Tk 8 27 ?_;refine Tk 9 28 ?_;refine Tk 10 29 ?_;refine Tk 11 30 ?_;refine Tk 12 31 ?_;refine Tk 13 32 ?_;refine Tk 14 33 ?_;refine Tk 15 34 ?_;refine Tk 16 35 ?_
        refine Tk 17 36 ?_;refine Tk 18 37 ?_;refine Tk 19 38 ?_;refine Tk 20 39 ?_;refine Tk 21 40 ?_;refine Tk 22 41 ?_;refine Tk 23 42 ?_;refine Tc 24 (fun K hK=>?_);go_simp;(go_at_call 120;refine (Dt.less_any la ln ea en _).mono ?_);rw[HL1.out];rintro e v1 ⟨rfl,hb9⟩;have HKc:=Lib.hid (HKc.out.later hb9);clear hb9;clear hHeld;refine Th hK ?_ (fun hHeld=>?_)
        ·exact⟨HKc.out.c0,HKc.out.c1,HKc.out.c2,HKc.out.c3,HKc.out.c4,HKc.out.c5,HKc.out.c6,HKc.out.c7⟩
        clear hK K
        cases l1 with
        | true=>
         refine Tk 25 44 ?_;refine Tk 26 45 ?_;refine Tk 27 46 ?_;refine Tk 28 47 ?_;refine Tk 29 48 ?_;refine Tk 30 49 ?_;refine Tn 31 50 ?_;refine Tn 32 51 ?_;refine Tn 33 52 ?_;refine Tn 34 53 ?_;refine Tn 35 54 ?_;refine Tn 36 55 ?_;refine Tn 37 56 ?_;refine Tn 38 57 ?_;refine Tn 39 58 ?_;refine Tk 40 59 ?_;refine Tk 41 60 ?_;refine wpAnyH_done (by kernel_rfl) ?_ _;have hbv:=HKc.out.below;have HB3:=Lib.hid (HBI.out.trans (hbv.mono HBI.out.size));have HFP3:=Lib.hid (HFP.out.later hbv);have HPC3:=Lib.hid (And.intro ((hbv.cell (p:=⟨p,0,none⟩) HFP.out.1).trans HPC.out.1) (And.intro ((hbv.cell (p:=⟨p,1,none⟩) HFP.out.1).trans HPC.out.2.1) (And.intro ((hbv.cell (p:=⟨p,2,none⟩) HFP.out.1).trans HPC.out.2.2.1) ((hbv.cell (p:=⟨p,3,none⟩) HFP.out.1).trans HPC.out.2.2.2))));clear hbv;have e1:=HKc.out.c1;have e2:=HKc.out.c2;have e3:=HKc.out.c3
         have e4:=HKc.out.c4;have y0:=HPC3.out.1;have y1:=HPC3.out.2.1;have y2:=HPC3.out.2.2.1;have y3:=HPC3.out.2.2.2;have m0:=HFP3.out.2 0;have m1:=HFP3.out.2 1;have m2:=HFP3.out.2 2;have m3:=HFP3.out.2 3
         have HLO2:Hid (LeastOf ltE (rootE (ls.take (k+1))) (Abv ltE es i) (some (⟨ea,en,et,ev⟩:E))):=by unfold Hid;rw[HSUC.out];exact least_new ltE_irr (HAB.out.2 HL1.out) HLO.out
         obtain⟨wv,hwv⟩:∃ W,W=v1:=⟨_,rfl⟩;obtain⟨W5,hW5⟩:∃ W,W=(((v1.setCell ⟨p,0,none⟩ (.int .i64 ea)).setCell ⟨p,1,none⟩ (.int .i64 en)).setCell ⟨p,2,none⟩ (.string et)).setCell ⟨p,3,none⟩ (.int .i64 ev):=⟨_,rfl⟩
         have HPC3:Hid (W5.cell? ⟨p,0,none⟩=some (.int .i64 (bestE (some ⟨ea,en,et,ev⟩)).a)∧W5.cell? ⟨p,1,none⟩=some (.int .i64 (bestE (some ⟨ea,en,et,ev⟩)).n)∧W5.cell? ⟨p,2,none⟩=some (.string (bestE (some ⟨ea,en,et,ev⟩)).s)∧W5.cell? ⟨p,3,none⟩=some (.int .i64 (bestE (some ⟨ea,en,et,ev⟩)).v)):=by
          unfold Hid;rw[hW5];exact⟨by go_simp;try rfl,by go_simp;try rfl,by go_simp;try rfl,by go_simp;try rfl⟩
         have HFP3:Hid (Free p W5):=by unfold Hid;rw[hW5];exact (((HFP3.out.set _ _).set _ _).set _ _).set _ _
         have HB3:Hid (Below wo.heap.size wo W5):=by
          unfold Hid;rw[hW5]
          have hpp:wo.heap.size≤p:=by have:=HPP.out;omega
          exact (((HB3.out.setCell (p:=⟨p,0,none⟩) hpp _).setCell (p:=⟨p,1,none⟩) hpp _).setCell (p:=⟨p,2,none⟩) hpp _).setCell (p:=⟨p,3,none⟩) hpp _
         have HW5:Hid (W5=(((v1.setCell ⟨p,0,none⟩ (.int .i64 ea)).setCell ⟨p,1,none⟩ (.int .i64 en)).setCell ⟨p,2,none⟩ (.string et)).setCell ⟨p,3,none⟩ (.int .i64 ev)):=hW5.trans rfl;clear hHeld hW5 hwv;go_wp2_with fail;rw[← HW5.out];go_roundw
         case rel=>exact⟨k+1,some ⟨ea,en,et,ev⟩,by omega,by go_num,rfl,HLO2.out,HPC3.out,HFP3.out,HB3.out⟩
         case measure=>simp[intOf];omega
        | false=>
         refine Tk 25 44 ?_;refine Tk 26 45 ?_;refine Tk 27 46 ?_;refine Tn 28 47 ?_;refine Tn 29 48 ?_;refine Tn 30 49 ?_;refine Tn 31 50 ?_;refine Tn 32 51 ?_;refine Tn 33 52 ?_;refine Tn 34 53 ?_;refine Tn 35 54 ?_;refine Tn 36 55 ?_;refine Tn 37 56 ?_;refine Tn 38 57 ?_;refine Tn 39 58 ?_;refine Tn 40 59 ?_;refine Tk 41 60 ?_;refine wpAnyH_done (by kernel_rfl) ?_ _
         have HLO2:Hid (LeastOf ltE (rootE (ls.take (k+1))) (Abv ltE es i) none):=by unfold Hid;rw[HSUC.out];exact least_skip (fun h=>by have h2:=HAB.out.1 h;rw[HL1.out]at h2;cases h2) HLO.out
         have hbv:=HKc.out.below;have HB3:=Lib.hid (HBI.out.trans (hbv.mono HBI.out.size));have HFP3:=Lib.hid (HFP.out.later hbv);have HPC3:=Lib.hid (And.intro ((hbv.cell (p:=⟨p,0,none⟩) HFP.out.1).trans HPC.out.1) (And.intro ((hbv.cell (p:=⟨p,1,none⟩) HFP.out.1).trans HPC.out.2.1) (And.intro ((hbv.cell (p:=⟨p,2,none⟩) HFP.out.1).trans HPC.out.2.2.1) ((hbv.cell (p:=⟨p,3,none⟩) HFP.out.1).trans HPC.out.2.2.2))));clear hbv;clear hHeld;go_wp2_with fail;go_roundw
         case rel=>exact⟨k+1,none,by omega,by go_num,rfl,HLO2.out,HPC3.out,HFP3.out,HB3.out⟩
         case measure=>simp[intOf];omega
       | some y=>
        obtain⟨ya,yn,yt,yv⟩:=y;obtain⟨l2,hl2⟩:∃ z,Dt.lessB ea en ya yn=z:=⟨_,rfl⟩;have HL2:=Lib.hid hl2;clear hl2
        replace p0:wr.cell? ⟨p,0,none⟩=some (.int .i64 ya):=p0
        replace p1:wr.cell? ⟨p,1,none⟩=some (.int .i64 yn):=p1
        replace p2:wr.cell? ⟨p,2,none⟩=some (.string yt):=p2
        replace p3:wr.cell? ⟨p,3,none⟩=some (.int .i64 yv):=p3
        have HKc:Hid (Kept [(⟨b,o+k*5,none⟩,.slice Ap 0 cp),(⟨b,o+k*5+1,none⟩,.int .i64 ea),(⟨b,o+k*5+2,none⟩,.int .i64 en),(⟨b,o+k*5+3,none⟩,.string et),(⟨b,o+k*5+4,none⟩,.int .i64 ev),(⟨p,0,none⟩,.int .i64 ya),(⟨p,1,none⟩,.int .i64 yn),(⟨r,0,none⟩,.slice (some ⟨b2,o2,none⟩) i k3),(⟨b2,o2+(i-1)*4,none⟩,.int .i64 la),(⟨b2,o2+(i-1)*4+1,none⟩,.int .i64 ln)] wr wr.drew):=by exact (((((((((((Kept.nil wr).cons_of d1).cons_of d0).cons_of s0).cons_of p1).cons_of p0).cons_of c4).cons_of c3).cons_of c2).cons_of c1).cons_of c0).drew
        go_wp2_with fail;refine wp_region_held_drew (S:=fun W=>W.cell? ⟨b,o+k*5,none⟩=some (.slice Ap 0 cp)∧W.cell? ⟨b,o+k*5+1,none⟩=some (.int .i64 ea)∧W.cell? ⟨b,o+k*5+2,none⟩=some (.int .i64 en)∧W.cell? ⟨b,o+k*5+3,none⟩=some (.string et)∧W.cell? ⟨b,o+k*5+4,none⟩=some (.int .i64 ev)∧W.cell? ⟨p,0,none⟩=some (.int .i64 ya)∧W.cell? ⟨p,1,none⟩=some (.int .i64 yn)∧W.cell? ⟨r,0,none⟩=some (.slice (some ⟨b2,o2,none⟩) i k3)∧W.cell? ⟨b2,o2+(i-1)*4,none⟩=some (.int .i64 la)∧W.cell? ⟨b2,o2+(i-1)*4+1,none⟩=some (.int .i64 ln)) (by kernel_rfl) (by go_keep) (fun hHeld=>?_);refine Tk 0 19 ?_;refine Tk 1 20 ?_;refine Tk 2 21 ?_;refine Tk 3 22 ?_;refine Tk 4 23 ?_;refine Tk 5 24 ?_;refine Tk 6 25 ?_;refine Tk 7 26 ?_;refine Tk 8 27 ?_;refine Tk 9 28 ?_;refine Tk 10 29 ?_;refine Tk 11 30 ?_
        refine Tk 12 31 ?_;refine Tk 13 32 ?_;refine Tk 14 33 ?_;refine Tk 15 34 ?_;refine Tk 16 35 ?_;refine Tk 17 36 ?_;refine Tk 18 37 ?_;refine Tk 19 38 ?_;refine Tk 20 39 ?_;refine Tk 21 40 ?_;refine Tk 22 41 ?_;refine Tk 23 42 ?_;refine Tc 24 (fun K hK=>?_);go_simp;(go_at_call 120;refine (Dt.less_any la ln ea en _).mono ?_);rw[HL1.out];rintro e v1 ⟨rfl,hb9⟩;have HKc:=Lib.hid (HKc.out.later hb9);clear hb9;clear hHeld;refine Th hK ?_ (fun hHeld=>?_)
        ·exact⟨HKc.out.c0,HKc.out.c1,HKc.out.c2,HKc.out.c3,HKc.out.c4,HKc.out.c5,HKc.out.c6,HKc.out.c7,HKc.out.tail.tail.c6,HKc.out.tail.tail.c7⟩
        clear hK K
        cases l1 with
        | true=>
         refine Tk 25 44 ?_;refine Tk 26 45 ?_;refine Tk 27 46 ?_;refine Tk 28 47 ?_;refine Tk 29 48 ?_;refine Tk 30 49 ?_;refine Tk 31 50 ?_;refine Tk 32 51 ?_;refine Tk 33 52 ?_;refine Tk 34 53 ?_;refine Tk 35 54 ?_;refine Tk 36 55 ?_;refine Tk 37 56 ?_;refine Tk 38 57 ?_;refine Tc 39 (fun K hK=>?_);go_simp;(go_at_call 120;refine (Dt.less_any ea en ya yn _).mono ?_);rw[HL2.out];rintro e v2 ⟨rfl,hb9⟩;have HKc:=Lib.hid (HKc.out.later hb9);clear hb9;clear hHeld;refine Th hK ?_ (fun hHeld=>?_)
         ·exact⟨HKc.out.c0,HKc.out.c1,HKc.out.c2,HKc.out.c3,HKc.out.c4,HKc.out.c5,HKc.out.c6,HKc.out.c7,HKc.out.tail.tail.c6,HKc.out.tail.tail.c7⟩
         clear hK K;refine Tk 40 59 ?_;refine Tk 41 60 ?_;refine wpAnyH_done (by kernel_rfl) ?_ _
         cases l2 with
         | false=>
          have HLO2:Hid (LeastOf ltE (rootE (ls.take (k+1))) (Abv ltE es i) (some ⟨ya,yn,yt,yv⟩)):=by unfold Hid;rw[HSUC.out];exact least_not (fun h=>by have h2:Dt.lessB ea en ya yn=true:=h;rw[HL2.out]at h2;cases h2) HLO.out
          have hbv:=HKc.out.below;have HB3:=Lib.hid (HBI.out.trans (hbv.mono HBI.out.size));have HFP3:=Lib.hid (HFP.out.later hbv);have HPC3:=Lib.hid (And.intro ((hbv.cell (p:=⟨p,0,none⟩) HFP.out.1).trans HPC.out.1) (And.intro ((hbv.cell (p:=⟨p,1,none⟩) HFP.out.1).trans HPC.out.2.1) (And.intro ((hbv.cell (p:=⟨p,2,none⟩) HFP.out.1).trans HPC.out.2.2.1) ((hbv.cell (p:=⟨p,3,none⟩) HFP.out.1).trans HPC.out.2.2.2))));clear hbv;clear hHeld;go_wp2_with fail;go_roundw
          case rel=>exact⟨k+1,(some ⟨ya,yn,yt,yv⟩),by omega,by go_num,rfl,HLO2.out,HPC3.out,HFP3.out,HB3.out⟩
          case measure=>simp[intOf];omega
         | true=>
          have hbv:=HKc.out.below;have HB3:=Lib.hid (HBI.out.trans (hbv.mono HBI.out.size));have HFP3:=Lib.hid (HFP.out.later hbv);have HPC3:=Lib.hid (And.intro ((hbv.cell (p:=⟨p,0,none⟩) HFP.out.1).trans HPC.out.1) (And.intro ((hbv.cell (p:=⟨p,1,none⟩) HFP.out.1).trans HPC.out.2.1) (And.intro ((hbv.cell (p:=⟨p,2,none⟩) HFP.out.1).trans HPC.out.2.2.1) ((hbv.cell (p:=⟨p,3,none⟩) HFP.out.1).trans HPC.out.2.2.2))));clear hbv;have e1:=HKc.out.c1;have e2:=HKc.out.c2;have e3:=HKc.out.c3;have e4:=HKc.out.c4;have y0:=HPC3.out.1;have y1:=HPC3.out.2.1;have y2:=HPC3.out.2.2.1;have y3:=HPC3.out.2.2.2;have m0:=HFP3.out.2 0;have m1:=HFP3.out.2 1;have m2:=HFP3.out.2 2;have m3:=HFP3.out.2 3
          have HLO2:Hid (LeastOf ltE (rootE (ls.take (k+1))) (Abv ltE es i) (some (⟨ea,en,et,ev⟩:E))):=by unfold Hid;rw[HSUC.out];exact least_less ltE_irr (fun _ _ _=>ltE_tr) (HAB.out.2 HL1.out) (show ltE (⟨ea,en,et,ev⟩:E) (⟨ya,yn,yt,yv⟩:E) from HL2.out) HLO.out
          obtain⟨wv,hwv⟩:∃ W,W=v2:=⟨_,rfl⟩;obtain⟨W5,hW5⟩:∃ W,W=(((v2.setCell ⟨p,0,none⟩ (.int .i64 ea)).setCell ⟨p,1,none⟩ (.int .i64 en)).setCell ⟨p,2,none⟩ (.string et)).setCell ⟨p,3,none⟩ (.int .i64 ev):=⟨_,rfl⟩
          have HPC3:Hid (W5.cell? ⟨p,0,none⟩=some (.int .i64 (bestE (some ⟨ea,en,et,ev⟩)).a)∧W5.cell? ⟨p,1,none⟩=some (.int .i64 (bestE (some ⟨ea,en,et,ev⟩)).n)∧W5.cell? ⟨p,2,none⟩=some (.string (bestE (some ⟨ea,en,et,ev⟩)).s)∧W5.cell? ⟨p,3,none⟩=some (.int .i64 (bestE (some ⟨ea,en,et,ev⟩)).v)):=by
           unfold Hid;rw[hW5];exact⟨by go_simp;try rfl,by go_simp;try rfl,by go_simp;try rfl,by go_simp;try rfl⟩
          have HFP3:Hid (Free p W5):=by unfold Hid;rw[hW5];exact (((HFP3.out.set _ _).set _ _).set _ _).set _ _
          have HB3:Hid (Below wo.heap.size wo W5):=by
           unfold Hid;rw[hW5]
           have hpp:wo.heap.size≤p:=by have:=HPP.out;omega
           exact (((HB3.out.setCell (p:=⟨p,0,none⟩) hpp _).setCell (p:=⟨p,1,none⟩) hpp _).setCell (p:=⟨p,2,none⟩) hpp _).setCell (p:=⟨p,3,none⟩) hpp _
          have HW5:Hid (W5=(((v2.setCell ⟨p,0,none⟩ (.int .i64 ea)).setCell ⟨p,1,none⟩ (.int .i64 en)).setCell ⟨p,2,none⟩ (.string et)).setCell ⟨p,3,none⟩ (.int .i64 ev)):=hW5.trans rfl;clear hHeld hW5 hwv;go_wp2_with fail;rw[← HW5.out];go_roundw
          case rel=>exact⟨k+1,some ⟨ea,en,et,ev⟩,by omega,by go_num,rfl,HLO2.out,HPC3.out,HFP3.out,HB3.out⟩
          case measure=>simp[intOf];omega
        | false=>
         refine Tk 25 44 ?_;refine Tk 26 45 ?_;refine Tk 27 46 ?_;refine Tn 28 47 ?_;refine Tn 29 48 ?_;refine Tn 30 49 ?_;refine Tn 31 50 ?_;refine Tn 32 51 ?_;refine Tn 33 52 ?_;refine Tn 34 53 ?_;refine Tn 35 54 ?_;refine Tn 36 55 ?_;refine Tn 37 56 ?_;refine Tn 38 57 ?_;refine Tn 39 58 ?_;refine Tn 40 59 ?_;refine Tk 41 60 ?_;refine wpAnyH_done (by kernel_rfl) ?_ _
         have HLO2:Hid (LeastOf ltE (rootE (ls.take (k+1))) (Abv ltE es i) (some ⟨ya,yn,yt,yv⟩)):=by unfold Hid;rw[HSUC.out];exact least_skip (fun h=>by have h2:=HAB.out.1 h;rw[HL1.out]at h2;cases h2) HLO.out
         have hbv:=HKc.out.below;have HB3:=Lib.hid (HBI.out.trans (hbv.mono HBI.out.size));have HFP3:=Lib.hid (HFP.out.later hbv);have HPC3:=Lib.hid (And.intro ((hbv.cell (p:=⟨p,0,none⟩) HFP.out.1).trans HPC.out.1) (And.intro ((hbv.cell (p:=⟨p,1,none⟩) HFP.out.1).trans HPC.out.2.1) (And.intro ((hbv.cell (p:=⟨p,2,none⟩) HFP.out.1).trans HPC.out.2.2.1) ((hbv.cell (p:=⟨p,3,none⟩) HFP.out.1).trans HPC.out.2.2.2))));clear hbv;clear hHeld;go_wp2_with fail;go_roundw
         case rel=>exact⟨k+1,(some ⟨ya,yn,yt,yv⟩),by omega,by go_num,rfl,HLO2.out,HPC3.out,HFP3.out,HB3.out⟩
         case measure=>simp[intOf];omega
    ·obtain rfl:n=k:=by omega
     have hbest:=HLO.out;rw[List.take_of_length_le (by rw[HLN.out];omega)]at hbest;have hbest:=best_ent2 HM.out HT.out (by rw[← HLE.out];exact hi) hbest;have s0:=HR0.out
     cases x with
     | none=>
      have hie:i=ne:=by
       rw[eq_comm,List.getElem?_eq_none_iff]at hbest;have:=HLE.out;omega
      subst hie
      have HO9:Hid (RO wr (fun b=>r+1≤b∧(Value.slice none 0 0).ownBlock≠some b) 4 A3 i k3 (entsC es)):=by
       have h1:=HO.out;rw[List.take_of_length_le (by rw[← HLE.out];omega)]at h1;exact ((RO.of_own h1).keep HBI.out.size (fun b _ hlt=>HBI.out.block b hlt)).mono (fun b hb _=>⟨hb.1,by simp[Value.ownBlock]⟩)
      have HLEN9:Hid (es.length=i):=HLE.out.symm;have HCC9:=Lib.hid (And.intro s0 (And.intro ((HBI.out.cell (p:=⟨r,1,none⟩) HFR.out.1).trans HCC.out.2.1) (And.intro ((HBI.out.cell (p:=⟨q,0,none⟩) HFQ.out.1).trans HCC.out.2.2.1) ((HBI.out.cell (p:=⟨q,1,none⟩) HFQ.out.1).trans HCC.out.2.2.2))));have HFR9:=Lib.hid (HFR.out.later HBI.out);have HFQ9:=Lib.hid (HFQ.out.later HBI.out);have HSZ9:Hid (r+1≤wr.heap.size):=Nat.le_trans HSZ.out HBI.out.size;have HB9:=Lib.hid (HB.out.trans (HBI.out.mono HB.out.size));clear s0 hbest;rw[show (Option.isSome (none:Option E))=false from rfl];go_wp2_with fail
      go_loopw [8] (fun s wz=>∃ (j:Nat) (Ax:Option Addr) (cx:Nat) (kr:List (ByteArray×SV×SV)),j≤nk∧s = .string (lastK ks j)∧Hid (KidRow wz (r+1) 134 Ax j cx (ks.take j) kr)∧Hid (RO wz (fun b=>r+1≤b∧(Value.slice Ax j cx).ownBlock≠some b) 4 A3 i k3 (entsC es))∧Hid (wz.cell? ⟨r,0,none⟩=some (.slice A3 i k3)∧wz.cell? ⟨r,1,none⟩=some (.slice Ax j cx)∧wz.cell? ⟨q,0,none⟩=some (.slice none 0 0)∧wz.cell? ⟨q,1,none⟩=some (.slice none 0 0))∧Hid (Free r wz)∧Hid (Free q wz)∧Hid (r+1≤wz.heap.size)∧Hid (Below w.heap.size w wz)) (fun _ wz=>nk+1-cntOf (wz.cell? ⟨r,1,none⟩))
      case atStart=>exact⟨0,none,0,[],by omega,rfl,KidRow.nil _ _ _,HO9.out,HCC9.out,HFR9.out,HFQ9.out,HSZ9.out,HB9.out⟩
      case round=>
       clear HO HCC HFR HFQ HSZ HB HLO HPC HFP HBI HR0 HO9 HCC9 HFR9 HFQ9 HSZ9 HB9 HPP HWP HBP;obtain⟨j,Ax,cx,kr,hj,rfl,HKR,HRO,HCC,HFR,HFQ,HSZ,HB⟩:=hrel;obtain⟨wk,hwk⟩:∃ W,W=wr:=⟨_,rfl⟩;subst hwk;obtain⟨la,hla⟩:∃ z,z=lastK ks j:=⟨_,rfl⟩;rw[← hla];have HLA:=Lib.hid hla;clear hla;go_wp2_with fail
       go_loopw [9,77] (fun s z wz=>∃ (k:Nat) (x:Option ByteArray),k≤n∧z = .int .i64 k∧s = .string (bestK x)∧wk=wz∧Hid (LeastOf ltS (heads (ls.take k)) (Abv ltS (ks.map fun x=>x.1) j) x)) (fun _ z _=>n-(intOf z).toNat)
       case atStart=>exact⟨0,none,by omega,by first | rfl | trivial,by first | rfl | trivial,by first | rfl | trivial,by unfold Hid;intro y hy;simp[heads]at hy⟩
       case round=>
        obtain⟨k,x,hk,rfl,rfl,rfl,HLO⟩:=hrel
        by_cases hlt:k<n
        ·have hkl:k<ls.length:=by rw[HLN.out];exact hlt
         obtain⟨b,o,rfl,hb,hc⟩:=LfRd.at_ HL.out (by omega);obtain⟨⟨Ap,np,cp⟩,c0,_,_,_,_,hpl,hpx⟩:=hc k hkl;dsimp only at c0 hpl hpx;have c0:=(HB.out.cell (p:=⟨b,o+k*5,none⟩) hb).trans c0;have hsuc:=heads_succ hkl
         have hmem:∀ y∈heads (ls.take (k+1)),1≤y.size:=fun y hy=>heads_ok HT.out ((heads_mem HM.out y).1 (by
          unfold heads at hy ⊢;rw[List.mem_filterMap]at hy ⊢;obtain⟨a,ha,he⟩:=hy
          exact⟨a,List.mem_of_mem_take ha,he⟩))
         obtain⟨lf,hlf⟩:∃ z,z=ls[k]:=⟨_,rfl⟩;rw[← hlf]at hpl hpx hsuc;obtain⟨pa,e⟩:=lf;dsimp only at hpl hpx;clear hc hlf
         cases pa with
         | nil=>
          have hnp:np=0:=by rw[← hpl];rfl
          subst hnp
          have HLO2:Hid (LeastOf ltS (heads (ls.take (k+1))) (Abv ltS (ks.map fun x=>x.1) j) x):=by unfold Hid;rw[hsuc];have h1:heads [(([]:List ByteArray),e)]=[]:=rfl;rw[h1,List.append_nil];exact HLO.out
          clear hsuc hpl hpx hmem;go_wp2_with fail;go_roundw
          case rel=>exact⟨k+1,x,by omega,by go_num,by first | rfl | trivial,by first | rfl | trivial,HLO2.out⟩
          case measure=>simp[intOf];omega
         | cons k0 pa=>
          have hnp0:0<np:=by rw[← hpl];exact Nat.succ_pos _
          have fz:decide ((0:Int)<(np:Int))=true:=decide_eq_true (by omega)
          have fz2:(0:Int)<(np:Int):=by omega
          obtain⟨b1,o1,rfl,hb1,_,hcc⟩:=hpx.at_ hnp0;have p0:=(HB.out.cell (p:=⟨b1,o1,none⟩) hb1).trans (by simpa [strs] using hcc 0 (.string k0) (by simp[strs]));have hsuc1:heads (ls.take (k+1))=heads (ls.take k)++[k0]:=hsuc;have hk0:1≤k0.size:=hmem k0 (by rw[hsuc1];exact List.mem_append_right _ List.mem_cons_self);have hab:=above_key (ks:=ks) (j:=j) hk0 (by rw[← HLK.out];exact hj);rw[← HLA.out]at hab;obtain⟨l1,hl1⟩:∃ z,Op.bytesLess la.toList k0.toList=z:=⟨_,rfl⟩;rw[hl1]at hab;have HAB:=Lib.hid hab;have HSUC:=Lib.hid hsuc1;have HMEM:=Lib.hid hmem;clear hcc hpx hpl hsuc hsuc1 hab hmem
          cases l1 with
          | false=>
           have HLO2:Hid (LeastOf ltS (heads (ls.take (k+1))) (Abv ltS (ks.map fun x=>x.1) j) x):=by unfold Hid;rw[HSUC.out];exact least_skip (fun h=>by have h2:=HAB.out.1 h;cases h2) HLO.out
           have htri:Op.bytesLess k0.toList la.toList=true∨k0=la:=by
            rcases tot_str.tri k0 la with h | h | h
            ·exact .inl h
            ·exact .inr h
            ·have h2:Op.bytesLess la.toList k0.toList=true:=h
             rw[hl1]at h2
             cases h2
           rcases htri with ft | rfl
           ·clear hl1
            go_wp2_with fail;go_roundw
            case rel=>exact⟨k+1,x,by omega,by go_num,by first | rfl | trivial,by first | rfl | trivial,HLO2.out⟩
            case measure=>simp[intOf];omega
           ·go_wp2_with fail
            go_roundw
            case rel=>exact⟨k+1,x,by omega,by go_num,by first | rfl | trivial,by first | rfl | trivial,HLO2.out⟩
            case measure=>simp[intOf];omega
          | true=>
           have ft:Op.bytesLess k0.toList la.toList=false:=by
            cases h:Op.bytesLess k0.toList la.toList with
            | false=>rfl
            | true=>exact absurd (tot_str.tr k0 la k0 h hl1) (tot_str.irr k0)
           have ft2:(k0.toList==la.toList)=false:=bytes_ne (fun e=>by subst e;exact absurd hl1 (by have:=tot_str.irr k0;exact this))
           have ft3:¬k0.toList=la.toList:=by rw[beq_eq_false_iff_ne]at ft2;exact ft2
           cases x with
           | none=>
            have HLO2:Hid (LeastOf ltS (heads (ls.take (k+1))) (Abv ltS (ks.map fun x=>x.1) j) (some k0)):=by unfold Hid;rw[HSUC.out];exact least_new tot_str.irr (HAB.out.2 rfl) HLO.out
            rw[show bestK none=⟨#[]⟩ from rfl];have fe:=nil_isEmpty;go_wp2_with fail;go_roundw
            case rel=>exact⟨k+1,some k0,by omega,by go_num,by first | rfl | trivial,by first | rfl | trivial,HLO2.out⟩
            case measure=>simp[intOf];omega
           | some y=>
            have hy1:1≤y.size:=HMEM.out y (by rw[HSUC.out];exact List.mem_append_left _ HLO.out.1);rw[show bestK (some y)=y from rfl];have fy:=str_isEmpty hy1;obtain⟨l2,hl2⟩:∃ z,Op.bytesLess k0.toList y.toList=z:=⟨_,rfl⟩;have HL2:=Lib.hid hl2
            cases l2 with
            | false=>
             have HLO2:Hid (LeastOf ltS (heads (ls.take (k+1))) (Abv ltS (ks.map fun x=>x.1) j) (some y)):=by unfold Hid;rw[HSUC.out];exact least_not (fun h=>by have h2:Op.bytesLess k0.toList y.toList=true:=h;rw[HL2.out]at h2;cases h2) HLO.out
             go_wp2_with fail;go_roundw
             case rel=>exact⟨k+1,some y,by omega,by go_num,by first | rfl | trivial,by first | rfl | trivial,HLO2.out⟩
             case measure=>simp[intOf];omega
            | true=>
             have HLO2:Hid (LeastOf ltS (heads (ls.take (k+1))) (Abv ltS (ks.map fun x=>x.1) j) (some k0)):=by unfold Hid;rw[HSUC.out];exact least_less tot_str.irr (fun _ _ _=>tot_str.tr _ _ _) (HAB.out.2 rfl) (show ltS k0 y from HL2.out) HLO.out
             go_wp2_with fail;go_roundw
             case rel=>exact⟨k+1,some k0,by omega,by go_num,by first | rfl | trivial,by first | rfl | trivial,HLO2.out⟩
             case measure=>simp[intOf];omega
        ·obtain rfl:n=k:=by omega
         have hbest:=HLO.out;rw[List.take_of_length_le (by rw[HLN.out];omega)]at hbest;have hbest:=best_key2 HM.out HT.out (by rw[← HLK.out];exact hj) hbest
         cases x with
         | none=>
          have hjk:j=nk:=by
           rw[eq_comm,List.getElem?_eq_none_iff,List.length_map]at hbest;have:=HLK.out;omega
          have hall:ks.take j=ks:=List.take_of_length_le (by rw[← HLK.out];omega);subst hjk;have hkr:=HKR.out;rw[hall]at hkr;have HTT:=Lib.hid (hkr.tree (ok:=fun b=>w.heap.size≤b∧b≠q) (fun b hb _=>⟨by omega,fun e=>by have:=HR3.out;omega⟩) (es:=es) (se:=⟨A3,i,k3⟩) HLEN9.out (HRO.out.mono (fun b hb _=>⟨by omega,fun e=>by have:=HR3.out;omega⟩)));have z0:=HCC.out.1;have z1:=HCC.out.2.1;have z2:=HCC.out.2.2.1;have z3:=HCC.out.2.2.2;have m0:=HFQ.out.2 0;have m1:=HFQ.out.2 1;have fe:=nil_isEmpty;rw[show bestK none=⟨#[]⟩ from rfl];clear hall hkr hbest;obtain⟨w9,hw9⟩:∃ W,W=(wk.setCell ⟨q,0,none⟩ (.slice A3 i k3)).setCell ⟨q,1,none⟩ (.slice Ax j cx):=⟨_,rfl⟩
          have HT9:Hid (RdO w9 (fun b=>w.heap.size≤b) (.mk es ks) ⟨A3,i,k3⟩ ⟨Ax,j,cx⟩):=by
           unfold Hid;rw[hw9];refine RdO.mono (fun b hb _=>hb.1) _ (RdO.keep (ok:=fun b=>w.heap.size≤b∧b≠q) (by simp[World.setCell]) (fun b hb hlt=>?_) _ HTT.out);exact (Below.heap_setCell _ ⟨q,1,none⟩ _ b (fun e=>hb.2 e)).trans (Below.heap_setCell _ ⟨q,0,none⟩ _ b (fun e=>hb.2 e))
          have HB99:Hid (Below w.heap.size w w9):=by unfold Hid;rw[hw9];exact (HB.out.setCell (p:=⟨q,0,none⟩) hwq _).setCell (p:=⟨q,1,none⟩) hwq _
          have j0:w9.cell? ⟨q,0,none⟩=some (.slice A3 i k3):=by rw[hw9];go_simp
          have j1:w9.cell? ⟨q,1,none⟩=some (.slice Ax j cx):=by rw[hw9];go_simp
          have HW9:=Lib.hid hw9;clear hw9;go_wp2_with fail;rw[← HW9.out];refine bodyPost_ret (v:=.agg #[.slice A3 i k3,.slice Ax j cx]) (by simp[results,Tryz.results112,go_sem,j0,j1]) rfl ⟨A3,i,k3,Ax,j,cx,rfl,HT9.out,HB99.out⟩
         | some y=>
          have hjk:j<ks.length:=by
           by_cases h:j<ks.length
           ·exact h
           ·rw[List.getElem?_eq_none (by rw[List.length_map];omega)]at hbest;cases hbest
          have hy:(ks[j]).1=y:=by
           rw[List.getElem?_eq_getElem (by rw[List.length_map];exact hjk),List.getElem_map]at hbest;injection hbest with hbest;exact hbest.symm
          have hjn:j+1≤nk:=by have:=HLK.out;omega
          obtain⟨u,hu⟩:∃ z,z=(ks[j]).2:=⟨_,rfl⟩;have hTr:=HT.out
          have hru:RightT d u:=by rw[hu];exact (hTr.2.2.2 _ (List.getElem_mem hjk)).2.2
          have HUL:Hid (∀ x,x∈under ls y↔x∈leaves u):=fun x=>by
           have h1:under (leaves (.mk es ks)) y=leaves u:=by
            rw[under_leaves hTr y,hu,← hy];exact congrArg leaves (kidAt_nth hTr.2.2.1 j hjk)
           rw[under_mem HM.out,h1]
          have hnu:nodes u≤100000:=by rw[hu];exact Nat.le_trans (nodes_kid (List.getElem_mem hjk)) HN.out
          have HKEY:Hid (ks.take (j+1)=ks.take j++[(y,u)]):=by unfold Hid;rw[List.take_succ_eq_append_getElem hjk,hu,← hy]
          have HLST:Hid (lastK ks (j+1)=y):=by
           show ((ks.map fun x=>x.1)[j]?).getD ⟨#[]⟩=y;rw[List.getElem?_eq_getElem (by rw[List.length_map];exact hjk),List.getElem_map];exact hy
          have hun:=under_any ls n A c y wk.drew hn5 ((HL.out.below (Nat.le_refl _) HB.out.drew).more HB.out.drew.size);obtain⟨m4,hm4⟩:∃ z,z=(under ls y).length:=⟨_,rfl⟩;rw[← hm4]at hun
          have HM45:Hid (m4≤100000):=by
           unfold Hid;rw[hm4];exact Nat.le_trans (List.length_filterMap_le _ _) (by rw[HLN.out];exact hn5)
          have HUN:=Lib.hid hun;have HNU:=Lib.hid hnu;have HRU:=Lib.hid hru
          have hy1:1≤y.size:=by rw[← hy];exact (hTr.2.2.2 _ (List.getElem_mem hjk)).1.1
          have fy:=str_isEmpty hy1;have s1:=HCC.out.2.1;rw[show bestK (some y)=y from rfl];clear hbest hy hu hTr hru hnu hun hm4 hjk hy1;go_wp2_with fail;refine wp_region_held_drew (S:=fun _=>True) (by kernel_rfl) (by trivial) (fun hHeld=>?_);refine Tk 0 124 ?_;refine Tk 2 126 ?_;refine Tk 3 127 ?_;refine Tk 4 128 ?_;refine wpAnyH_ready (rs:=[1,5]) (by kernel_rfl) (by simp) ?_;refine AllReadyH.cons (o:=⟨some 125,_,_,_,_,_⟩) rfl (fun K hK=>?_) (AllReadyH.cons (o:=⟨some 129,_,_,_,_,_⟩) rfl (fun K hK=>?_) (AllReadyH.nil))
          ·go_simp
           refine Th hK ?_ (fun hHeld2=>?_)
           ·trivial
           clear hK K hHeld;have hHeld:=hHeld2;clear hHeld2;refine Tc 5 (fun K hK=>?_);go_simp;(go_at_call 118;refine HUN.out.mono ?_);rintro e w4 ⟨A4,c4,rfl,hl4,hb4⟩;have hb4':Below wk.heap.size wk w4:=((Below.refl wk.heap.size wk).drew).trans hb4;have x1:=(hb4'.cell (p:=⟨r,1,none⟩) HFR.out.1).trans HCC.out.2.1;have HB4:=Lib.hid hb4';have HC5:=Lib.hid (HIH.out u HRU.out _ HUL.out A4 m4 c4 w4 HM45.out HNU.out hl4);clear hb4 hb4' hl4;refine Th hK ?_ (fun hHeld2=>?_)
           ·trivial
           clear hK K hHeld;have hHeld:=hHeld2;clear hHeld2;refine Tc 6 (fun K hK=>?_);go_simp;(go_at_call 112;refine HC5.out.mono ?_);rintro e w5 ⟨Ae5,ne5,ce5,Ak5,nk5,ck5,rfl,hro5,hb5⟩;have hb5':Below wk.heap.size wk w5:=HB4.out.trans (hb5.mono HB4.out.size);have HKR5:=HKR.out.later hb5';have hRO5:=HRO.out.keep hb5'.size (fun b _ hlt=>hb5'.block b hlt);have hu5:RdO w5 (fun b=>r+1≤b∧(Value.slice Ax j cx).ownBlock≠some b) u ⟨Ae5,ne5,ce5⟩ ⟨Ak5,nk5,ck5⟩:=RdO.mono (fun b hb _=>⟨by have h1:=HSZ.out;have h2:=HB4.out.size;have h3:w4.heap.size≤b:=hb;omega,fun e=>by have h1:=(HKR.out.own.row.lt b e).2;have h2:=HB4.out.size;have h3:w4.heap.size≤b:=hb;omega⟩) _ hro5;obtain⟨A6,c6,w6,r6,HKR6,hb6,hblk⟩:=KidRow.push2 (k:=(y,⟨Ae5,ne5,ce5⟩,⟨Ak5,nk5,ck5⟩)) Tryz.underlying33 infoK rfl (by omega) HKR5 w5.heap.size rfl (Nat.le_trans HSZ.out hb5'.size) hu5 (by omega) #[.string y,.slice Ae5 ne5 ce5,.slice Ak5 nk5 ck5] rfl
           have hb6s:=hb6.size;have hrw5:r<w5.heap.size:=Nat.lt_of_lt_of_le HFR.out.1 hb5'.size;have hqw5:q<w5.heap.size:=Nat.lt_of_lt_of_le HFQ.out.1 hb5'.size
           have hob:∀ x,x≤r→(Value.slice Ax j cx).ownBlock≠some x:=fun x hx e=>by have h1:=(HKR.out.own.row.lt x e).1;omega
           have t0:=(hb5'.cell (p:=⟨r,1,none⟩) HFR.out.1).trans s1;have K6:∀ x,x≤r→x<w5.heap.size→∀ j,w6.cell? ⟨x,j,none⟩=w5.cell? ⟨x,j,none⟩:=fun x hx hl j=>World.cell?_of_block (a:=⟨x,j,none⟩) (hblk x (hob x hx) hl).1;have F6:∀ x,x≤r→x<w5.heap.size→∀ j,w6.frozen? ⟨x,j,none⟩=w5.frozen? ⟨x,j,none⟩:=fun x hx hl j=>World.frozen?_of_block (a:=⟨x,j,none⟩) (hblk x (hob x hx) hl).1;have u0:=(K6 r (Nat.le_refl _) hrw5 1).trans t0;have mr:=(F6 r (Nat.le_refl _) hrw5 1).trans ((HFR.out.later hb5').2 1);obtain⟨w7,hw7⟩:∃ W,W=w6.setCell ⟨r,1,none⟩ (.slice A6 (j+1) c6):=⟨_,rfl⟩
           have hk7:∀ x,x≠r→w7.heap[x]?=w6.heap[x]?:=fun x hx=>by rw[hw7];exact Below.heap_setCell _ ⟨r,1,none⟩ _ x (fun e=>hx e)
           have v0:w7.cell? ⟨r,1,none⟩=some (.slice A6 (j+1) c6):=by rw[hw7];go_simp
           have v1:w7.cell? ⟨r,0,none⟩=some (.slice A3 i k3):=by
            rw[hw7,World.cell?_setCell_other w6 ⟨r,1,none⟩ ⟨r,0,none⟩ _ (fun e=>by injection e with _ e;cases e),K6 r (Nat.le_refl _) hrw5 0];exact (hb5'.cell (p:=⟨r,0,none⟩) HFR.out.1).trans HCC.out.1
           have v2:∀ x j,x≠r→x≤r→x<wk.heap.size→w7.cell? ⟨x,j,none⟩=wk.cell? ⟨x,j,none⟩:=fun x j hx hl hlt=>((World.cell?_of_block (a:=⟨x,j,none⟩) (hk7 x hx)).trans (K6 x hl (Nat.lt_of_lt_of_le hlt hb5'.size) j)).trans (hb5'.cell (p:=⟨x,j,none⟩) hlt)
           have HCC7:Hid (w7.cell? ⟨r,0,none⟩=some (.slice A3 i k3)∧w7.cell? ⟨r,1,none⟩=some (.slice A6 (j+1) c6)∧w7.cell? ⟨q,0,none⟩=some (.slice none 0 0)∧w7.cell? ⟨q,1,none⟩=some (.slice none 0 0)):=
            ⟨v1,v0,(v2 q 0 hqr (by have:=HR3.out;omega) HFQ.out.1).trans HCC.out.2.2.1,(v2 q 1 hqr (by have:=HR3.out;omega) HFQ.out.1).trans HCC.out.2.2.2⟩
           have hsz7:w7.heap.size=w6.heap.size:=by rw[hw7];simp[World.setCell]
           have hsz6:w5.heap.size≤w6.heap.size:=hb6s
           have HKR7:Hid (KidRow w7 (r+1) 134 A6 (j+1) c6 (ks.take (j+1)) (kr++[(y,⟨Ae5,ne5,ce5⟩,⟨Ak5,nk5,ck5⟩)])):=by
            unfold Hid;rw[HKEY.out];exact HKR6.set7 (Nat.lt_succ_self r) hw7
           have HRO7:Hid (RO w7 (fun b=>r+1≤b∧(Value.slice A6 (j+1) c6).ownBlock≠some b) 4 A3 i k3 (entsC es)):=
            ((hRO5.mono (ok':=fun b=>r+1≤b∧(Value.slice Ax j cx).ownBlock≠some b∧(Value.slice A6 (j+1) c6).ownBlock≠some b) (fun b hb hlt=>⟨hb.1,hb.2,(hblk b hb.2 hlt).2⟩)).keep (by omega) (fun b hb hlt=>(hk7 b (by omega)).trans (hblk b hb.2.1 hlt).1)).mono (fun b hb _=>⟨hb.1,hb.2.2⟩)
           have HFR7:Hid (Free r w7):=by
            unfold Hid;refine⟨by omega,fun j=>?_⟩;rw[hw7,World.frozen?_setCell];exact (F6 r (Nat.le_refl _) hrw5 j).trans ((HFR.out.later hb5').2 j)
           have HFQ7:Hid (Free q w7):=by
            unfold Hid;refine⟨by omega,fun j=>?_⟩;rw[hw7,World.frozen?_setCell];exact (F6 q (by have:=HR3.out;omega) hqw5 j).trans ((HFQ.out.later hb5').2 j)
           have HSZ7:Hid (r+1≤w7.heap.size):=by have:=HSZ.out;have:=hb5'.size;unfold Hid;omega
           have HB7:Hid (Below w.heap.size w w7):=by
            unfold Hid;rw[hw7];exact ((HB.out.trans (hb5'.mono HB.out.size)).trans (hb6.mono (by omega))).setCell (p:=⟨r,1,none⟩) hwr _
           have HM7:Hid (nk+1-cntOf (w7.cell? ⟨r,1,none⟩)<nk+1-cntOf (wk.cell? ⟨r,1,none⟩)):=by
            unfold Hid;rw[v0,HCC.out.2.1];show nk+1-(j+1)<nk+1-j;omega
           have Hrun:=Lib.hid r6;have HW7:=Lib.hid hw7;clear hro5 hb5 hb5' HKR5 hRO5 hu5 r6 HKR6 hb6 hblk hob K6 F6 hw7 hk7 v0 v1 v2 hsz7 hsz6 hb6s;refine Th hK ?_ (fun hHeld2=>?_)
           ·trivial
           clear hK K hHeld;have hHeld:=hHeld2;clear hHeld2;refine Tk 7 131 ?_;refine Tc 8 (fun K hK=>?_);go_simp;refine Th hK ?_ (fun hHeld2=>?_)
           ·trivial
           clear hK K hHeld;have hHeld:=hHeld2;clear hHeld2;refine Tc 9 (fun K hK=>?_);refine upon_append _ _ _ rfl rfl rfl Hrun.out ?_;refine Th hK ?_ (fun hHeld2=>?_)
           ·trivial
           clear hK K hHeld;have hHeld:=hHeld2;clear hHeld2;refine Tk 10 134 ?_;refine Tc 11 (fun K hK=>?_);go_simp;refine Th hK ?_ (fun hHeld2=>?_)
           ·trivial
           clear hK K hHeld;have hHeld:=hHeld2;clear hHeld2;refine wpAnyH_done (by kernel_rfl) ?_ _;clear t0 u0 mr Hrun hHeld x1 s1;go_wp2_with fail;rw[← HW7.out];go_roundw
           case rel=>exact⟨j+1,A6,c6,_,hjn,by rw[HLST.out],HKR7.out,HRO7.out,HCC7.out,HFR7.out,HFQ7.out,HSZ7.out,HB7.out⟩
           case measure=>exact HM7.out
          ·go_simp
           (go_at_call 118;refine HUN.out.mono ?_);rintro e w4 ⟨A4,c4,rfl,hl4,hb4⟩;have hb4':Below wk.heap.size wk w4:=((Below.refl wk.heap.size wk).drew).trans hb4;have x1:=(hb4'.cell (p:=⟨r,1,none⟩) HFR.out.1).trans HCC.out.2.1;have HB4:=Lib.hid hb4';have HC5:=Lib.hid (HIH.out u HRU.out _ HUL.out A4 m4 c4 w4 HM45.out HNU.out hl4);clear hb4 hb4' hl4;refine Th hK ?_ (fun hHeld2=>?_)
           ·trivial
           clear hK K hHeld;have hHeld:=hHeld2;clear hHeld2;refine wpAnyH_ready (rs:=[1,6]) (by kernel_rfl) (by simp) ?_;refine AllReadyH.cons (o:=⟨some 125,_,_,_,_,_⟩) rfl (fun K hK=>?_) (AllReadyH.cons (o:=⟨some 130,_,_,_,_,_⟩) rfl (fun K hK=>?_) (AllReadyH.nil))
           ·go_simp
            refine Th hK ?_ (fun hHeld2=>?_)
            ·trivial
            clear hK K hHeld;have hHeld:=hHeld2;clear hHeld2;refine Tc 6 (fun K hK=>?_);go_simp;(go_at_call 112;refine HC5.out.mono ?_);rintro e w5 ⟨Ae5,ne5,ce5,Ak5,nk5,ck5,rfl,hro5,hb5⟩;have hb5':Below wk.heap.size wk w5:=HB4.out.trans (hb5.mono HB4.out.size);have HKR5:=HKR.out.later hb5';have hRO5:=HRO.out.keep hb5'.size (fun b _ hlt=>hb5'.block b hlt);have hu5:RdO w5 (fun b=>r+1≤b∧(Value.slice Ax j cx).ownBlock≠some b) u ⟨Ae5,ne5,ce5⟩ ⟨Ak5,nk5,ck5⟩:=RdO.mono (fun b hb _=>⟨by have h1:=HSZ.out;have h2:=HB4.out.size;have h3:w4.heap.size≤b:=hb;omega,fun e=>by have h1:=(HKR.out.own.row.lt b e).2;have h2:=HB4.out.size;have h3:w4.heap.size≤b:=hb;omega⟩) _ hro5;obtain⟨A6,c6,w6,r6,HKR6,hb6,hblk⟩:=KidRow.push2 (k:=(y,⟨Ae5,ne5,ce5⟩,⟨Ak5,nk5,ck5⟩)) Tryz.underlying33 infoK rfl (by omega) HKR5 w5.heap.size rfl (Nat.le_trans HSZ.out hb5'.size) hu5 (by omega) #[.string y,.slice Ae5 ne5 ce5,.slice Ak5 nk5 ck5] rfl
            have hb6s:=hb6.size;have hrw5:r<w5.heap.size:=Nat.lt_of_lt_of_le HFR.out.1 hb5'.size;have hqw5:q<w5.heap.size:=Nat.lt_of_lt_of_le HFQ.out.1 hb5'.size
            have hob:∀ x,x≤r→(Value.slice Ax j cx).ownBlock≠some x:=fun x hx e=>by have h1:=(HKR.out.own.row.lt x e).1;omega
            have t0:=(hb5'.cell (p:=⟨r,1,none⟩) HFR.out.1).trans s1;have K6:∀ x,x≤r→x<w5.heap.size→∀ j,w6.cell? ⟨x,j,none⟩=w5.cell? ⟨x,j,none⟩:=fun x hx hl j=>World.cell?_of_block (a:=⟨x,j,none⟩) (hblk x (hob x hx) hl).1;have F6:∀ x,x≤r→x<w5.heap.size→∀ j,w6.frozen? ⟨x,j,none⟩=w5.frozen? ⟨x,j,none⟩:=fun x hx hl j=>World.frozen?_of_block (a:=⟨x,j,none⟩) (hblk x (hob x hx) hl).1;have u0:=(K6 r (Nat.le_refl _) hrw5 1).trans t0;have mr:=(F6 r (Nat.le_refl _) hrw5 1).trans ((HFR.out.later hb5').2 1);obtain⟨w7,hw7⟩:∃ W,W=w6.setCell ⟨r,1,none⟩ (.slice A6 (j+1) c6):=⟨_,rfl⟩
            have hk7:∀ x,x≠r→w7.heap[x]?=w6.heap[x]?:=fun x hx=>by rw[hw7];exact Below.heap_setCell _ ⟨r,1,none⟩ _ x (fun e=>hx e)
            have v0:w7.cell? ⟨r,1,none⟩=some (.slice A6 (j+1) c6):=by rw[hw7];go_simp
            have v1:w7.cell? ⟨r,0,none⟩=some (.slice A3 i k3):=by
             rw[hw7,World.cell?_setCell_other w6 ⟨r,1,none⟩ ⟨r,0,none⟩ _ (fun e=>by injection e with _ e;cases e),K6 r (Nat.le_refl _) hrw5 0];exact (hb5'.cell (p:=⟨r,0,none⟩) HFR.out.1).trans HCC.out.1
            have v2:∀ x j,x≠r→x≤r→x<wk.heap.size→w7.cell? ⟨x,j,none⟩=wk.cell? ⟨x,j,none⟩:=fun x j hx hl hlt=>((World.cell?_of_block (a:=⟨x,j,none⟩) (hk7 x hx)).trans (K6 x hl (Nat.lt_of_lt_of_le hlt hb5'.size) j)).trans (hb5'.cell (p:=⟨x,j,none⟩) hlt)
            have HCC7:Hid (w7.cell? ⟨r,0,none⟩=some (.slice A3 i k3)∧w7.cell? ⟨r,1,none⟩=some (.slice A6 (j+1) c6)∧w7.cell? ⟨q,0,none⟩=some (.slice none 0 0)∧w7.cell? ⟨q,1,none⟩=some (.slice none 0 0)):=
             ⟨v1,v0,(v2 q 0 hqr (by have:=HR3.out;omega) HFQ.out.1).trans HCC.out.2.2.1,(v2 q 1 hqr (by have:=HR3.out;omega) HFQ.out.1).trans HCC.out.2.2.2⟩
            have hsz7:w7.heap.size=w6.heap.size:=by rw[hw7];simp[World.setCell]
            have hsz6:w5.heap.size≤w6.heap.size:=hb6s
            have HKR7:Hid (KidRow w7 (r+1) 134 A6 (j+1) c6 (ks.take (j+1)) (kr++[(y,⟨Ae5,ne5,ce5⟩,⟨Ak5,nk5,ck5⟩)])):=by
             unfold Hid;rw[HKEY.out];exact HKR6.set7 (Nat.lt_succ_self r) hw7
            have HRO7:Hid (RO w7 (fun b=>r+1≤b∧(Value.slice A6 (j+1) c6).ownBlock≠some b) 4 A3 i k3 (entsC es)):=
             ((hRO5.mono (ok':=fun b=>r+1≤b∧(Value.slice Ax j cx).ownBlock≠some b∧(Value.slice A6 (j+1) c6).ownBlock≠some b) (fun b hb hlt=>⟨hb.1,hb.2,(hblk b hb.2 hlt).2⟩)).keep (by omega) (fun b hb hlt=>(hk7 b (by omega)).trans (hblk b hb.2.1 hlt).1)).mono (fun b hb _=>⟨hb.1,hb.2.2⟩)
            have HFR7:Hid (Free r w7):=by
             unfold Hid;refine⟨by omega,fun j=>?_⟩;rw[hw7,World.frozen?_setCell];exact (F6 r (Nat.le_refl _) hrw5 j).trans ((HFR.out.later hb5').2 j)
            have HFQ7:Hid (Free q w7):=by
             unfold Hid;refine⟨by omega,fun j=>?_⟩;rw[hw7,World.frozen?_setCell];exact (F6 q (by have:=HR3.out;omega) hqw5 j).trans ((HFQ.out.later hb5').2 j)
            have HSZ7:Hid (r+1≤w7.heap.size):=by have:=HSZ.out;have:=hb5'.size;unfold Hid;omega
            have HB7:Hid (Below w.heap.size w w7):=by
             unfold Hid;rw[hw7];exact ((HB.out.trans (hb5'.mono HB.out.size)).trans (hb6.mono (by omega))).setCell (p:=⟨r,1,none⟩) hwr _
            have HM7:Hid (nk+1-cntOf (w7.cell? ⟨r,1,none⟩)<nk+1-cntOf (wk.cell? ⟨r,1,none⟩)):=by
             unfold Hid;rw[v0,HCC.out.2.1];show nk+1-(j+1)<nk+1-j;omega
            have Hrun:=Lib.hid r6;have HW7:=Lib.hid hw7;clear hro5 hb5 hb5' HKR5 hRO5 hu5 r6 HKR6 hb6 hblk hob K6 F6 hw7 hk7 v0 v1 v2 hsz7 hsz6 hb6s;refine Th hK ?_ (fun hHeld2=>?_)
            ·trivial
            clear hK K hHeld;have hHeld:=hHeld2;clear hHeld2;refine Tk 7 131 ?_;refine Tc 8 (fun K hK=>?_);go_simp;refine Th hK ?_ (fun hHeld2=>?_)
            ·trivial
            clear hK K hHeld;have hHeld:=hHeld2;clear hHeld2;refine Tc 9 (fun K hK=>?_);refine upon_append _ _ _ rfl rfl rfl Hrun.out ?_;refine Th hK ?_ (fun hHeld2=>?_)
            ·trivial
            clear hK K hHeld;have hHeld:=hHeld2;clear hHeld2;refine Tk 10 134 ?_;refine Tc 11 (fun K hK=>?_);go_simp;refine Th hK ?_ (fun hHeld2=>?_)
            ·trivial
            clear hK K hHeld;have hHeld:=hHeld2;clear hHeld2;refine wpAnyH_done (by kernel_rfl) ?_ _;clear t0 u0 mr Hrun hHeld x1 s1;go_wp2_with fail;rw[← HW7.out];go_roundw
            case rel=>exact⟨j+1,A6,c6,_,hjn,by rw[HLST.out],HKR7.out,HRO7.out,HCC7.out,HFR7.out,HFQ7.out,HSZ7.out,HB7.out⟩
            case measure=>exact HM7.out
           ·go_simp
            (go_at_call 112;refine HC5.out.mono ?_);rintro e w5 ⟨Ae5,ne5,ce5,Ak5,nk5,ck5,rfl,hro5,hb5⟩;have hb5':Below wk.heap.size wk w5:=HB4.out.trans (hb5.mono HB4.out.size);have HKR5:=HKR.out.later hb5';have hRO5:=HRO.out.keep hb5'.size (fun b _ hlt=>hb5'.block b hlt);have hu5:RdO w5 (fun b=>r+1≤b∧(Value.slice Ax j cx).ownBlock≠some b) u ⟨Ae5,ne5,ce5⟩ ⟨Ak5,nk5,ck5⟩:=RdO.mono (fun b hb _=>⟨by have h1:=HSZ.out;have h2:=HB4.out.size;have h3:w4.heap.size≤b:=hb;omega,fun e=>by have h1:=(HKR.out.own.row.lt b e).2;have h2:=HB4.out.size;have h3:w4.heap.size≤b:=hb;omega⟩) _ hro5;obtain⟨A6,c6,w6,r6,HKR6,hb6,hblk⟩:=KidRow.push2 (k:=(y,⟨Ae5,ne5,ce5⟩,⟨Ak5,nk5,ck5⟩)) Tryz.underlying33 infoK rfl (by omega) HKR5 w5.heap.size rfl (Nat.le_trans HSZ.out hb5'.size) hu5 (by omega) #[.string y,.slice Ae5 ne5 ce5,.slice Ak5 nk5 ck5] rfl
            have hb6s:=hb6.size;have hrw5:r<w5.heap.size:=Nat.lt_of_lt_of_le HFR.out.1 hb5'.size;have hqw5:q<w5.heap.size:=Nat.lt_of_lt_of_le HFQ.out.1 hb5'.size
            have hob:∀ x,x≤r→(Value.slice Ax j cx).ownBlock≠some x:=fun x hx e=>by have h1:=(HKR.out.own.row.lt x e).1;omega
            have t0:=(hb5'.cell (p:=⟨r,1,none⟩) HFR.out.1).trans s1;have K6:∀ x,x≤r→x<w5.heap.size→∀ j,w6.cell? ⟨x,j,none⟩=w5.cell? ⟨x,j,none⟩:=fun x hx hl j=>World.cell?_of_block (a:=⟨x,j,none⟩) (hblk x (hob x hx) hl).1;have F6:∀ x,x≤r→x<w5.heap.size→∀ j,w6.frozen? ⟨x,j,none⟩=w5.frozen? ⟨x,j,none⟩:=fun x hx hl j=>World.frozen?_of_block (a:=⟨x,j,none⟩) (hblk x (hob x hx) hl).1;have u0:=(K6 r (Nat.le_refl _) hrw5 1).trans t0;have mr:=(F6 r (Nat.le_refl _) hrw5 1).trans ((HFR.out.later hb5').2 1);obtain⟨w7,hw7⟩:∃ W,W=w6.setCell ⟨r,1,none⟩ (.slice A6 (j+1) c6):=⟨_,rfl⟩
            have hk7:∀ x,x≠r→w7.heap[x]?=w6.heap[x]?:=fun x hx=>by rw[hw7];exact Below.heap_setCell _ ⟨r,1,none⟩ _ x (fun e=>hx e)
            have v0:w7.cell? ⟨r,1,none⟩=some (.slice A6 (j+1) c6):=by rw[hw7];go_simp
            have v1:w7.cell? ⟨r,0,none⟩=some (.slice A3 i k3):=by
             rw[hw7,World.cell?_setCell_other w6 ⟨r,1,none⟩ ⟨r,0,none⟩ _ (fun e=>by injection e with _ e;cases e),K6 r (Nat.le_refl _) hrw5 0];exact (hb5'.cell (p:=⟨r,0,none⟩) HFR.out.1).trans HCC.out.1
            have v2:∀ x j,x≠r→x≤r→x<wk.heap.size→w7.cell? ⟨x,j,none⟩=wk.cell? ⟨x,j,none⟩:=fun x j hx hl hlt=>((World.cell?_of_block (a:=⟨x,j,none⟩) (hk7 x hx)).trans (K6 x hl (Nat.lt_of_lt_of_le hlt hb5'.size) j)).trans (hb5'.cell (p:=⟨x,j,none⟩) hlt)
            have HCC7:Hid (w7.cell? ⟨r,0,none⟩=some (.slice A3 i k3)∧w7.cell? ⟨r,1,none⟩=some (.slice A6 (j+1) c6)∧w7.cell? ⟨q,0,none⟩=some (.slice none 0 0)∧w7.cell? ⟨q,1,none⟩=some (.slice none 0 0)):=
             ⟨v1,v0,(v2 q 0 hqr (by have:=HR3.out;omega) HFQ.out.1).trans HCC.out.2.2.1,(v2 q 1 hqr (by have:=HR3.out;omega) HFQ.out.1).trans HCC.out.2.2.2⟩
            have hsz7:w7.heap.size=w6.heap.size:=by rw[hw7];simp[World.setCell]
            have hsz6:w5.heap.size≤w6.heap.size:=hb6s
            have HKR7:Hid (KidRow w7 (r+1) 134 A6 (j+1) c6 (ks.take (j+1)) (kr++[(y,⟨Ae5,ne5,ce5⟩,⟨Ak5,nk5,ck5⟩)])):=by
             unfold Hid;rw[HKEY.out];exact HKR6.set7 (Nat.lt_succ_self r) hw7
            have HRO7:Hid (RO w7 (fun b=>r+1≤b∧(Value.slice A6 (j+1) c6).ownBlock≠some b) 4 A3 i k3 (entsC es)):=
             ((hRO5.mono (ok':=fun b=>r+1≤b∧(Value.slice Ax j cx).ownBlock≠some b∧(Value.slice A6 (j+1) c6).ownBlock≠some b) (fun b hb hlt=>⟨hb.1,hb.2,(hblk b hb.2 hlt).2⟩)).keep (by omega) (fun b hb hlt=>(hk7 b (by omega)).trans (hblk b hb.2.1 hlt).1)).mono (fun b hb _=>⟨hb.1,hb.2.2⟩)
            have HFR7:Hid (Free r w7):=by
             unfold Hid;refine⟨by omega,fun j=>?_⟩;rw[hw7,World.frozen?_setCell];exact (F6 r (Nat.le_refl _) hrw5 j).trans ((HFR.out.later hb5').2 j)
            have HFQ7:Hid (Free q w7):=by
             unfold Hid;refine⟨by omega,fun j=>?_⟩;rw[hw7,World.frozen?_setCell];exact (F6 q (by have:=HR3.out;omega) hqw5 j).trans ((HFQ.out.later hb5').2 j)
            have HSZ7:Hid (r+1≤w7.heap.size):=by have:=HSZ.out;have:=hb5'.size;unfold Hid;omega
            have HB7:Hid (Below w.heap.size w w7):=by
             unfold Hid;rw[hw7];exact ((HB.out.trans (hb5'.mono HB.out.size)).trans (hb6.mono (by omega))).setCell (p:=⟨r,1,none⟩) hwr _
            have HM7:Hid (nk+1-cntOf (w7.cell? ⟨r,1,none⟩)<nk+1-cntOf (wk.cell? ⟨r,1,none⟩)):=by
             unfold Hid;rw[v0,HCC.out.2.1];show nk+1-(j+1)<nk+1-j;omega
            have Hrun:=Lib.hid r6;have HW7:=Lib.hid hw7;clear hro5 hb5 hb5' HKR5 hRO5 hu5 r6 HKR6 hb6 hblk hob K6 F6 hw7 hk7 v0 v1 v2 hsz7 hsz6 hb6s;refine Th hK ?_ (fun hHeld2=>?_)
            ·trivial
            clear hK K hHeld;have hHeld:=hHeld2;clear hHeld2;refine Tk 7 131 ?_;refine wpAnyH_ready (rs:=[1,8]) (by kernel_rfl) (by simp) ?_;refine AllReadyH.cons (o:=⟨some 125,_,_,_,_,_⟩) rfl (fun K hK=>?_) (AllReadyH.cons (o:=⟨some 132,_,_,_,_,_⟩) rfl (fun K hK=>?_) (AllReadyH.nil))
            ·go_simp
             refine Th hK ?_ (fun hHeld2=>?_)
             ·trivial
             clear hK K hHeld;have hHeld:=hHeld2;clear hHeld2;refine Tc 8 (fun K hK=>?_);go_simp;refine Th hK ?_ (fun hHeld2=>?_)
             ·trivial
             clear hK K hHeld;have hHeld:=hHeld2;clear hHeld2;refine Tc 9 (fun K hK=>?_);refine upon_append _ _ _ rfl rfl rfl Hrun.out ?_;refine Th hK ?_ (fun hHeld2=>?_)
             ·trivial
             clear hK K hHeld;have hHeld:=hHeld2;clear hHeld2;refine Tk 10 134 ?_;refine Tc 11 (fun K hK=>?_);go_simp;refine Th hK ?_ (fun hHeld2=>?_)
             ·trivial
             clear hK K hHeld;have hHeld:=hHeld2;clear hHeld2;refine wpAnyH_done (by kernel_rfl) ?_ _;clear t0 u0 mr Hrun hHeld x1 s1;go_wp2_with fail;rw[← HW7.out];go_roundw
             case rel=>exact⟨j+1,A6,c6,_,hjn,by rw[HLST.out],HKR7.out,HRO7.out,HCC7.out,HFR7.out,HFQ7.out,HSZ7.out,HB7.out⟩
             case measure=>exact HM7.out
            ·go_simp
             refine Th hK ?_ (fun hHeld2=>?_)
             ·trivial
             clear hK K hHeld;have hHeld:=hHeld2;clear hHeld2;refine Tc 1 (fun K hK=>?_);go_simp;refine Th hK ?_ (fun hHeld2=>?_)
             ·trivial
             clear hK K hHeld;have hHeld:=hHeld2;clear hHeld2;refine Tc 9 (fun K hK=>?_);refine upon_append _ _ _ rfl rfl rfl Hrun.out ?_;refine Th hK ?_ (fun hHeld2=>?_)
             ·trivial
             clear hK K hHeld;have hHeld:=hHeld2;clear hHeld2;refine Tk 10 134 ?_;refine Tc 11 (fun K hK=>?_);go_simp;refine Th hK ?_ (fun hHeld2=>?_)
             ·trivial
             clear hK K hHeld;have hHeld:=hHeld2;clear hHeld2;refine wpAnyH_done (by kernel_rfl) ?_ _;clear t0 u0 mr Hrun hHeld x1 s1;go_wp2_with fail;rw[← HW7.out];go_roundw
             case rel=>exact⟨j+1,A6,c6,_,hjn,by rw[HLST.out],HKR7.out,HRO7.out,HCC7.out,HFR7.out,HFQ7.out,HSZ7.out,HB7.out⟩
             case measure=>exact HM7.out
     | some y=>
      have hie:i<es.length:=by
       by_cases h:i<es.length
       ·exact h
       ·rw[List.getElem?_eq_none (by omega)]at hbest;cases hbest
      have htk:es.take (i+1)=es.take i++[y]:=by
       rw[List.getElem?_eq_getElem hie]at hbest;injection hbest with hbest;rw[List.take_succ_eq_append_getElem hie,hbest]
      have HTK:=Lib.hid htk
      have hin:i+1≤ne:=by have:=HLE.out;omega
      have hlen:(es.take i).length=i:=by rw[List.length_take];omega
      obtain⟨ya,yn,yt,yv⟩:=y;have p0:wr.cell? ⟨p,0,none⟩=some (.int .i64 ya):=HPC.out.1;have p1:wr.cell? ⟨p,1,none⟩=some (.int .i64 yn):=HPC.out.2.1;have p2:wr.cell? ⟨p,2,none⟩=some (.string yt):=HPC.out.2.2.1;have p3:wr.cell? ⟨p,3,none⟩=some (.int .i64 yv):=HPC.out.2.2.2;obtain⟨A6,c6,w6,r6,HO6,hb6⟩:=push_ent wr (r+1) wr.heap.size rfl (own_later HO.out HBI.out) hlen (Nat.le_trans HSZ.out HBI.out.size) (⟨ya,yn,yt,yv⟩:E) (by omega);dsimp only at r6;have hs6:wr.heap.size≤w6.heap.size:=hb6.size;have s1:=(HBI.out.cell (p:=⟨r,1,none⟩) HFR.out.1).trans HCC.out.2.1;have s2:=(HBI.out.cell (p:=⟨q,0,none⟩) HFQ.out.1).trans HCC.out.2.2.1;have s3:=(HBI.out.cell (p:=⟨q,1,none⟩) HFQ.out.1).trans HCC.out.2.2.2;have u0:=(hb6.cell (p:=⟨r,0,none⟩) (Nat.lt_succ_self r)).trans s0;have u1:=(hb6.cell (p:=⟨r,1,none⟩) (Nat.lt_succ_self r)).trans s1
      have u2:=(hb6.cell (p:=⟨q,0,none⟩) (by show q<r+1;have:=HR3.out;omega)).trans s2;have u3:=(hb6.cell (p:=⟨q,1,none⟩) (by show q<r+1;have:=HR3.out;omega)).trans s3;have HFR6:=(HFR.out.later HBI.out).low hb6 (Nat.lt_succ_self r) hs6;have HFQ6:=(HFQ.out.later HBI.out).low hb6 (by have:=HR3.out;omega) hs6;have mr:=HFR6.2 0;obtain⟨w7,hw7⟩:∃ W,W=w6.setCell ⟨r,0,none⟩ (.slice A6 (i+1) c6):=⟨_,rfl⟩
      have HO7:Hid (Own w7 (r+1) 97 4 A6 (i+1) c6 (entsC (es.take (i+1)))):=by unfold Hid;rw[HTK.out,hw7];exact HO6.set_below (a:=⟨r,0,none⟩) (Nat.lt_succ_self r) _
      have v0:w7.cell? ⟨r,0,none⟩=some (.slice A6 (i+1) c6):=by rw[hw7];go_simp
      have v1:w7.cell? ⟨r,1,none⟩=some (.slice none 0 0):=by rw[hw7];go_simp
      have v2:w7.cell? ⟨q,0,none⟩=some (.slice none 0 0):=by rw[hw7];go_simp
      have v3:w7.cell? ⟨q,1,none⟩=some (.slice none 0 0):=by rw[hw7];go_simp
      have HCC7:=Lib.hid (And.intro v0 (And.intro v1 (And.intro v2 v3)))
      have HFR7:Hid (Free r w7):=by unfold Hid;rw[hw7];exact HFR6.set _ _
      have HFQ7:Hid (Free q w7):=by unfold Hid;rw[hw7];exact HFQ6.set _ _
      have HSZ7:Hid (r+1≤w7.heap.size):=by unfold Hid;rw[hw7];have h1:=HSZ.out;have h2:=HBI.out.size;simp[World.setCell];omega
      have HB7:Hid (Below w.heap.size w w7):=by
       unfold Hid;rw[hw7];exact ((HB.out.trans (HBI.out.mono HB.out.size)).trans (hb6.mono (by omega))).setCell (p:=⟨r,0,none⟩) hwr _
      have Hrun:=Lib.hid r6;have HW7:=Lib.hid hw7
      have HM7:Hid (ne+1-cntOf (w7.cell? ⟨r,0,none⟩)<ne+1-cntOf (wo.cell? ⟨r,0,none⟩)):=by
       unfold Hid;rw[v0,HCC.out.1];show ne+1-(i+1)<ne+1-i;omega
      clear hbest htk hie hlen r6 HO6 hb6 hs6 s1 s2 s3 u1 u2 u3 HFR6 HFQ6 hw7 v0 v1 v2 v3;go_wp2_with (at_builtin;refine Lib.wpList_append_run _ rfl _ _ _ _ rfl _ _ rfl rfl _ _ Hrun.out ?_);rw[← HW7.out];go_roundw
      case rel=>exact⟨i+1,A6,c6,hin,HO7.out,HCC7.out,HFR7.out,HFQ7.out,HSZ7.out,HB7.out⟩
      case measure=>exact HM7.out
theorem build_any (d:Nat) (t:T) (ht:RightT d t) (A:Option Addr) (n c:Nat) (w:World) (hn:nodes t≤100000) (hl:LfRd w w.heap.size A n c (leaves t)) :
  Calls Tryz.prog 112 #[.slice A n c] w fun e w'=>∃ Ae ne ce Ak nk ck,e = .returned (.agg #[.slice Ae ne ce,.slice Ak nk ck])∧RdO w' (fun b=>w.heap.size≤b) t ⟨Ae,ne,ce⟩ ⟨Ak,nk,ck⟩∧Below w.heap.size w w':=
 build_of d t ht (leaves t) (fun _=>Iff.rfl) A n c w (by have h1:=hl.1;have h2:=leaves_nodes t;omega) hn hl
end Tr
end Go.Proofs.YtgeafpaognhokaaGreat
