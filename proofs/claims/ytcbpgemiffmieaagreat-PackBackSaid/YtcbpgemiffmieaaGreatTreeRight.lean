/- Trees: what is right, the program's. -/
import Derived.Test.YtcbpgemiffmieaaGreatG00
set_option maxRecDepth 100000
set_option maxHeartbeats 4000000
namespace Go.Proofs.YtcbpgemiffmieaaGreat
open Go.ChangeShapes Go.WideShapes Go.ChangeAt Go.RowKit
namespace Tr
open Sp Rw
theorem cmp_less (a n b m:Int):decide (0≤Dt.cmpI a n b m) = !Dt.lessB a n b m:=by
 unfold Dt.cmpI Dt.lessB
 by_cases h:a<b∨(a=b∧n<m)
 ·rw[if_pos h,decide_eq_true h];rfl
 ·rw[if_neg h,decide_eq_false h]
  split <;> rfl
theorem right_any:∀ (d:Nat) (t:T) (Ae Ak:Option Addr) (ne nk ce ck:Nat) (w:World),d≤1000→LenT reachBytes t→RdT w w.heap.size t ⟨Ae,ne,ce⟩ ⟨Ak,nk,ck⟩ →
  Calls Tryz.prog 100 #[.agg #[.slice Ae ne ce,.slice Ak nk ck],.int .i64 ((d:Nat):Int)] w fun e w'=>e = .returned (.bool (rightB d t))∧Below w.heap.size w w':=by
 intro d
 induction d with
 | zero=>
  intro t Ae Ak ne nk ce ck w _ _ _;rw[rightB_zero];go_enter Tryz.func100,Tryz.ntmps100;go_wp2_with fail;go_ret;exact⟨rfl,Dt.box_below _ _ _⟩
 | succ d ih=>
  intro t Ae Ak ne nk ce ck w hd hl hr
  cases t with
  | mk es ks=>
   obtain⟨m,hm⟩:∃ m,m=d+1:=⟨_,rfl⟩;rw[← hm];obtain⟨z,hz⟩:∃ z,z=rightB m (.mk es ks):=⟨_,rfl⟩;rw[← hz];rw[hm]at hz;have HZ:=Lib.hid hz
   have fm:((m:Int)==0)=false:=by simp;omega
   have hdm:IntKind.i64.wrap ((m:Int)-1)=(d:Int):=by rw[IntKind.wrap_i64];omega
   have hrE:=hl.es;have hrK:=hl.ks;obtain⟨hle,hlk⟩:=rd_lens hr;have HR:=Lib.hid hr;have HLE:=Lib.hid hle;have HLK:=Lib.hid hlk;clear hle hlk hr;rw[HLE.out]at hrE;rw[HLK.out]at hrK;unfold reachBytes at hrE hrK;have IH:=Lib.hid ih;have HL:=Lib.hid hl;clear ih hl hz hm;obtain⟨g,hg⟩:∃ g,g=w.heap.size:=⟨_,rfl⟩;have HK:=Lib.hid (tree_box w Ae Ak ne nk ce ck);rw[← hg]at HK;obtain⟨W0,hW0⟩:∃ W,W=w.alloc (.cells #[.slice Ae ne ce,.slice Ak nk ck] 35):=⟨_,rfl⟩;rw[← hW0]at HK;have HG:=Lib.hid hg;have HW0:=Lib.hid hW0;have k0:=HK.out.c0;have k1:=HK.out.c1;clear hg hW0;go_enter Tryz.func100,Tryz.ntmps100;go_wp2_with fail;rw[← HG.out,← HW0.out];go_wp2_with fail
   go_loopw [14] (fun i wr=>∃ (k:Nat),k≤ne∧i = .int .i64 k∧Hid (GoodE es k)∧Hid (Kept [(⟨g,0,none⟩,.slice Ae ne ce),(⟨g,1,none⟩,.slice Ak nk ck)] w wr)) (fun i _=>ne-(intOf i).toNat)
   case atStart=>exact⟨0,by omega,rfl,GoodE.zero _,HK.out⟩
   case round=>
    obtain⟨k,hk,rfl,HGE,HKW⟩:=hrel;clear k0 k1;have k0:=HKW.out.c0;have k1:=HKW.out.c1
    by_cases hlt:k<ne
    ·have hkl:k<es.length:=by rw[HLE.out];exact hlt
     obtain⟨b,o,rfl,hb,hc⟩:=rd_ent HR.out (by omega);obtain⟨c0,c1,c2,c3⟩:=hc k hkl;have c0:=(HKW.out.below.cell (p:=⟨b,o+k*4,none⟩) hb).trans c0;have c1:=(HKW.out.below.cell (p:=⟨b,o+k*4+1,none⟩) hb).trans c1;have c2:=(HKW.out.below.cell (p:=⟨b,o+k*4+2,none⟩) hb).trans c2;have c3:=(HKW.out.below.cell (p:=⟨b,o+k*4+3,none⟩) hb).trans c3;obtain⟨eb,heb⟩:∃ z,entB es[k]=z:=⟨_,rfl⟩;have HENT:=fun W=>Lib.hid (rightEntry_any es[k] W);rw[heb]at HENT;obtain⟨ea,en,es',ev,hee⟩:∃ a n s v,es[k]=⟨a,n,s,v⟩:=⟨_,_,_,_,rfl⟩;rw[hee]at c0 c1 c2 c3 HENT;dsimp only at c0 c1 c2 c3 HENT;have HEB:=Lib.hid heb;have HEE:=Lib.hid hee;clear heb hee;obtain⟨p,hp⟩:∃ p,p=wr.heap.size:=⟨_,rfl⟩;obtain⟨W1,hW1⟩:∃ W,W=wr.alloc (.cells #[.int .i64 ea,.int .i64 en,.string es',.int .i64 ev] 116):=⟨_,rfl⟩
     have hb1:Below wr.heap.size wr W1:=by rw[hW1];exact Dt.box_below _ _ _
     have p0:W1.cell? ⟨p,0,none⟩=some (.int .i64 ea):=by rw[hW1,hp];go_simp
     have p1:W1.cell? ⟨p,1,none⟩=some (.int .i64 en):=by rw[hW1,hp];go_simp
     have p2:W1.cell? ⟨p,2,none⟩=some (.string es'):=by rw[hW1,hp];go_simp
     have p3:W1.cell? ⟨p,3,none⟩=some (.int .i64 ev):=by rw[hW1,hp];go_simp
     have HK0:=Lib.hid (((((HKW.out.later hb1).cons_of p3).cons_of p2).cons_of p1).cons_of p0);have HW1:=Lib.hid hW1;have HP:=Lib.hid hp;clear hW1 hp
     by_cases h0:0<k
     ·obtain⟨d0,d1,_,_⟩:=hc (k-1) (by omega)
      have d0:=(HKW.out.below.cell (p:=⟨b,o+(k-1)*4,none⟩) hb).trans d0;have d1:=(HKW.out.below.cell (p:=⟨b,o+(k-1)*4+1,none⟩) hb).trans d1;have hbw:b<wr.heap.size:=World.block_lt_of_cell? wr _ d0;have d0:=(hb1.cell (p:=⟨b,o+(k-1)*4,none⟩) hbw).trans d0;have d1:=(hb1.cell (p:=⟨b,o+(k-1)*4+1,none⟩) hbw).trans d1;obtain⟨pa,hpa⟩:∃ x,x=(es[k-1]).a:=⟨_,rfl⟩;obtain⟨pn,hpn⟩:∃ x,x=(es[k-1]).n:=⟨_,rfl⟩;rw[← hpa]at d0;rw[← hpn]at d1;obtain⟨lb,hlb⟩:∃ z,Dt.lessB pa pn ea en=z:=⟨_,rfl⟩
      have hkm:IntKind.i64.wrap ((k:Int)-1)=((k-1:Nat):Int):=by rw[IntKind.wrap_i64];omega
      have hkm2:((k-1:Nat):Int)<(ne:Int):=by omega
      have hkm3:(0:Int)≤((k-1:Nat):Int):=by omega
      have HLB:Hid (ltE es[k-1] es[k]↔lb=true):=by unfold Hid;rw[← hlb];unfold ltE;rw[HEE.out,← hpa,← hpn]
      have HK0:=Lib.hid ((HK0.out.cons_of d1).cons_of d0);have HLESS:=fun W=>Lib.hid (Dt.compare_any pa pn ea en W);obtain⟨cm,hcm⟩:∃ z,Dt.cmpI pa pn ea en=z:=⟨_,rfl⟩;have hc2:=cmp_less pa pn ea en;rw[hlb,hcm]at hc2;rw[hcm]at HLESS;clear hcm;clear hlb hpa hpn hc hbw;have fz:decide ((0:Int)<(k:Int))=true:=decide_eq_true (by omega);have HKc:=Lib.hid HK0.out.drew;obtain⟨s0,s1,s2,s3,s4,s5,s6,s7,-⟩:=HK0.out.cj;clear hb1 HK0;clear p0 p1 p2 p3;go_wp2_with fail;rw[← HP.out,← HW1.out];refine wp_region_held_drew (S:=fun W=>W.cell? ⟨b,o+(k-1)*4,none⟩=some (.int .i64 pa)∧W.cell? ⟨b,o+(k-1)*4+1,none⟩=some (.int .i64 pn)∧W.cell? ⟨p,0,none⟩=some (.int .i64 ea)∧W.cell? ⟨p,1,none⟩=some (.int .i64 en)∧W.cell? ⟨p,2,none⟩=some (.string es')∧W.cell? ⟨p,3,none⟩=some (.int .i64 ev)∧W.cell? ⟨g,0,none⟩=some (.slice (some ⟨b,o,none⟩) ne ce)∧W.cell? ⟨g,1,none⟩=some (.slice Ak nk ck)) (by kernel_rfl) (by go_keep) (fun hHeld=>?_)
      refine Tk 0 19 ?_
      cases eb with
      | true=>
       refine Tc 1 (fun K hK=>?_);go_simp;(go_at_call 127;refine (HENT _).out.mono ?_;rintro e w2 ⟨rfl,hb2⟩;have HKc:=Lib.hid (HKc.out.later hb2);clear hb2);clear hHeld;refine Th hK ?_ (fun hHeld=>?_)
       ·exact⟨HKc.out.c0,HKc.out.c1,HKc.out.c2,HKc.out.c3,HKc.out.c4,HKc.out.c5,HKc.out.c6,HKc.out.c7⟩
       clear hK K;refine Tk 2 21 ?_;refine Tk 3 22 ?_;refine Tk 4 23 ?_;refine Tk 5 24 ?_;refine Tk 6 25 ?_;refine Tk 7 26 ?_;refine Tk 8 27 ?_;refine Tk 9 28 ?_;refine Tk 10 29 ?_;refine Tk 11 30 ?_;refine Tk 12 31 ?_;refine Tk 13 32 ?_;refine Tk 14 33 ?_;refine Tk 15 34 ?_
       cases lb with
       | true=>
        refine Tc 16 (fun K hK=>?_);go_simp;(go_at_call 128;refine (HLESS _).out.mono ?_;rintro e w2 ⟨rfl,hb2⟩;have HKc:=Lib.hid (HKc.out.later hb2);clear hb2);clear hHeld;refine Th hK ?_ (fun hHeld=>?_)
        ·exact⟨HKc.out.c0,HKc.out.c1,HKc.out.c2,HKc.out.c3,HKc.out.c4,HKc.out.c5,HKc.out.c6,HKc.out.c7⟩
        clear hK K;refine Tk 17 36 ?_;refine Tk 18 37 ?_;refine Tk 19 38 ?_;refine wpAnyH_done (by kernel_rfl) ?_ _;have HG2:Hid (GoodE es (k+1)):=HGE.out.succ hkl (entB_iff.1 HEB.out) (fun _=>HLB.out.2 rfl);have HK2:=Lib.hid HKc.out.tail.tail.tail.tail.tail.tail;go_wp2_with fail;go_roundw
        case rel=>exact⟨k+1,by omega,by go_num,HG2.out,HK2.out⟩
        case measure=>simp[intOf];omega
       | false=>
        refine Tc 16 (fun K hK=>?_);go_simp;(go_at_call 128;refine (HLESS _).out.mono ?_;rintro e w2 ⟨rfl,hb2⟩;have HKc:=Lib.hid (HKc.out.later hb2);clear hb2);clear hHeld;refine Th hK ?_ (fun hHeld=>?_)
        ·exact⟨HKc.out.c0,HKc.out.c1,HKc.out.c2,HKc.out.c3,HKc.out.c4,HKc.out.c5,HKc.out.c6,HKc.out.c7⟩
        clear hK K;refine Tk 17 36 ?_;refine Tk 18 37 ?_;refine Tk 19 38 ?_;refine wpAnyH_done (by kernel_rfl) ?_ _;go_wp2_with fail;go_ret;exact⟨Dt.ret_bool (by rw[HZ.out];exact (rightB_noE k hkl (fun h=>absurd (HLB.out.1 (h.2 h0)) (by simp))).symm),HKc.out.below⟩
      | false=>
       refine Tc 1 (fun K hK=>?_);go_simp;(go_at_call 127;refine (HENT _).out.mono ?_;rintro e w2 ⟨rfl,hb2⟩;have HKc:=Lib.hid (HKc.out.later hb2);clear hb2);clear hHeld;refine Th hK ?_ (fun hHeld=>?_)
       ·exact⟨HKc.out.c0,HKc.out.c1,HKc.out.c2,HKc.out.c3,HKc.out.c4,HKc.out.c5,HKc.out.c6,HKc.out.c7⟩
       clear hK K;refine Tk 2 21 ?_;refine Tk 3 22 ?_;refine Tn 4 23 ?_;refine Tn 5 24 ?_;refine Tn 6 25 ?_;refine Tn 7 26 ?_;refine Tn 8 27 ?_;refine Tn 9 28 ?_;refine Tn 10 29 ?_;refine Tn 11 30 ?_;refine Tn 12 31 ?_;refine Tn 13 32 ?_;refine Tn 14 33 ?_;refine Tn 15 34 ?_;refine Tn 16 35 ?_;refine Tn 17 36 ?_;refine Tn 18 37 ?_;refine Tk 19 38 ?_;refine wpAnyH_done (by kernel_rfl) ?_ _;go_wp2_with fail;go_ret;exact⟨Dt.ret_bool (by rw[HZ.out];exact (rightB_noE k hkl (fun h=>absurd (entB_iff.2 h.1) (by rw[HEB.out];simp))).symm),HKc.out.below⟩
     ·clear hc
      have fz:decide ((0:Int)<(k:Int))=false:=decide_eq_false (by omega);have HKc:=Lib.hid HK0.out.drew;obtain⟨s0,s1,s2,s3,s4,s5,-⟩:=HK0.out.cj;clear hb1 HK0;clear p0 p1 p2 p3;go_wp2_with fail;rw[← HP.out,← HW1.out];refine wp_region_held_drew (S:=fun W=>W.cell? ⟨p,0,none⟩=some (.int .i64 ea)∧W.cell? ⟨p,1,none⟩=some (.int .i64 en)∧W.cell? ⟨p,2,none⟩=some (.string es')∧W.cell? ⟨p,3,none⟩=some (.int .i64 ev)∧W.cell? ⟨g,0,none⟩=some (.slice (some ⟨b,o,none⟩) ne ce)∧W.cell? ⟨g,1,none⟩=some (.slice Ak nk ck)) (by kernel_rfl) (by go_keep) (fun hHeld=>?_);refine Tk 0 19 ?_
      cases eb with
      | true=>
       refine Tc 1 (fun K hK=>?_);go_simp;(go_at_call 127;refine (HENT _).out.mono ?_;rintro e w2 ⟨rfl,hb2⟩;have HKc:=Lib.hid (HKc.out.later hb2);clear hb2);clear hHeld;refine Th hK ?_ (fun hHeld=>?_)
       ·exact⟨HKc.out.c0,HKc.out.c1,HKc.out.c2,HKc.out.c3,HKc.out.c4,HKc.out.c5⟩
       clear hK K;refine Tk 2 21 ?_;refine Tk 3 22 ?_;refine Tk 4 23 ?_;refine Tk 5 24 ?_;refine Tk 6 25 ?_;refine Tn 7 26 ?_;refine Tn 8 27 ?_;refine Tn 9 28 ?_;refine Tn 10 29 ?_;refine Tn 11 30 ?_;refine Tn 12 31 ?_;refine Tn 13 32 ?_;refine Tn 14 33 ?_;refine Tn 15 34 ?_;refine Tn 16 35 ?_;refine Tn 17 36 ?_;refine Tk 18 37 ?_;refine Tk 19 38 ?_;refine wpAnyH_done (by kernel_rfl) ?_ _;have HG2:Hid (GoodE es (k+1)):=HGE.out.succ hkl (entB_iff.1 HEB.out) (fun h=>absurd h h0);have HK2:=Lib.hid HKc.out.tail.tail.tail.tail;go_wp2_with fail;go_roundw
       case rel=>exact⟨k+1,by omega,by go_num,HG2.out,HK2.out⟩
       case measure=>simp[intOf];omega
      | false=>
       refine Tc 1 (fun K hK=>?_);go_simp;(go_at_call 127;refine (HENT _).out.mono ?_;rintro e w2 ⟨rfl,hb2⟩;have HKc:=Lib.hid (HKc.out.later hb2);clear hb2);clear hHeld;refine Th hK ?_ (fun hHeld=>?_)
       ·exact⟨HKc.out.c0,HKc.out.c1,HKc.out.c2,HKc.out.c3,HKc.out.c4,HKc.out.c5⟩
       clear hK K;refine Tk 2 21 ?_;refine Tk 3 22 ?_;refine Tn 4 23 ?_;refine Tn 5 24 ?_;refine Tn 6 25 ?_;refine Tn 7 26 ?_;refine Tn 8 27 ?_;refine Tn 9 28 ?_;refine Tn 10 29 ?_;refine Tn 11 30 ?_;refine Tn 12 31 ?_;refine Tn 13 32 ?_;refine Tn 14 33 ?_;refine Tn 15 34 ?_;refine Tn 16 35 ?_;refine Tn 17 36 ?_;refine Tn 18 37 ?_;refine Tk 19 38 ?_;refine wpAnyH_done (by kernel_rfl) ?_ _;go_wp2_with fail;go_ret;exact⟨Dt.ret_bool (by rw[HZ.out];exact (rightB_noE k hkl (fun h=>absurd (entB_iff.2 h.1) (by rw[HEB.out];simp))).symm),HKc.out.below⟩
    ·obtain rfl:k=ne:=by omega
     have HK:=HKW;clear k0 k1 HKW;have k0:=HK.out.c0;have k1:=HK.out.c1;go_wp2_with fail
     go_loopw [43] (fun i wr=>∃ (j:Nat),j≤nk∧i = .int .i64 j∧Hid (GoodK d ks j)∧Hid (Kept [(⟨g,0,none⟩,.slice Ae k ce),(⟨g,1,none⟩,.slice Ak nk ck)] w wr)) (fun i _=>nk-(intOf i).toNat)
     case atStart=>exact⟨0,by omega,rfl,GoodK.zero _ _,HK.out⟩
     case round=>
      obtain⟨j,hj,rfl,HGK,HKW⟩:=hrel;clear k0 k1;have k0:=HKW.out.c0;have k1:=HKW.out.c1
      by_cases hlt:j<nk
      ·have hkl:j<ks.length:=by rw[HLK.out];exact hlt
       obtain⟨b,o,rfl,hb,hc⟩:=rd_kid HR.out (by omega);obtain⟨⟨Ae',ne',ce'⟩,⟨Ak',nk',ck'⟩,c0,c1,c2,hkid⟩:=hc j hkl;dsimp only at c0 c1 c2;have c0:=(HKW.out.below.cell (p:=⟨b,o+j*3,none⟩) hb).trans c0;have c1:=(HKW.out.below.cell (p:=⟨b,o+j*3+1,none⟩) hb).trans c1;have c2:=(HKW.out.below.cell (p:=⟨b,o+j*3+2,none⟩) hb).trans c2;obtain⟨key,hkey⟩:∃ key,key=(ks[j]).1:=⟨_,rfl⟩;rw[← hkey]at c0;obtain⟨kb,hkb⟩:∃ z,keyB key=z:=⟨_,rfl⟩;have HKEY:=fun W=>Lib.hid (rightKey_any key W);rw[hkb]at HKEY
       have hlens:(ks[j]).2.es.length=ne'∧(ks[j]).2.ks.length=nk':=by
        have:=hkid;rw[← T.eta (ks[j]).2]at this;exact rd_lens this
       have hln:=HL.out.kid (List.getElem_mem hkl)
       have hlE:ne'≤140737488351232:=by
        have:=hln;rw[← T.eta (ks[j]).2]at this;have:=this.es;unfold reachBytes at this;omega
       have hlK:nk'≤140737488351232:=by
        have:=hln;rw[← T.eta (ks[j]).2]at this;have:=this.ks;unfold reachBytes at this;omega
       obtain⟨eb,heb⟩:∃ z,decide (ne'=0∧nk'=0)=z:=⟨_,rfl⟩
       have HNON:Hid (¬((ks[j]).2.es=[]∧(ks[j]).2.ks=[])↔eb=false):=by
        unfold Hid;rw[← heb,decide_eq_false_iff_not,← hlens.1,← hlens.2,List.length_eq_zero_iff,List.length_eq_zero_iff]
       obtain⟨rb,hrb⟩:∃ z,rightB d (ks[j]).2=z:=⟨_,rfl⟩
       have HKB:Hid (KeyOk (ks[j]).1↔kb=true):=by unfold Hid;rw[← hkey,← hkb];exact keyB_iff.symm
       have HRB:Hid (RightT d (ks[j]).2↔rb=true):=by unfold Hid;rw[← hrb];exact rightB_iff.symm
       have HRIGHT:Hid (∀ W,Below w.heap.size w W→Calls Tryz.prog 100 #[.agg #[.slice Ae' ne' ce',.slice Ak' nk' ck'],.int .i64 (d:Int)] W fun e w'=>e = .returned (.bool rb)∧Below W.heap.size W w'):=fun W hW=>by
        rw[← hrb];exact IH.out _ Ae' Ak' ne' nk' ce' ck' W (by omega) hln (RdT.more hW.size _ (RdT.below hkid hW))
       have HEMP:=fun W=>Lib.hid (empty_any Ae' Ak' ne' nk' ce' ck' W);rw[heb]at HEMP;obtain⟨p,hp⟩:∃ p,p=wr.heap.size:=⟨_,rfl⟩;obtain⟨W1,hW1⟩:∃ W,W=wr.alloc (.cells #[.string key,.slice Ae' ne' ce',.slice Ak' nk' ck'] 118):=⟨_,rfl⟩
       have hb1:Below wr.heap.size wr W1:=by rw[hW1];exact Dt.box_below _ _ _
       have p0:W1.cell? ⟨p,0,none⟩=some (.string key):=by rw[hW1,hp];go_simp
       have p1:W1.cell? ⟨p,1,none⟩=some (.slice Ae' ne' ce'):=by rw[hW1,hp];go_simp
       have p2:W1.cell? ⟨p,2,none⟩=some (.slice Ak' nk' ck'):=by rw[hW1,hp];go_simp
       have HK0:=Lib.hid ((((HKW.out.later hb1).cons_of p2).cons_of p1).cons_of p0);have HW1:=Lib.hid hW1;have HP:=Lib.hid hp;clear hW1 hp hkb heb hrb hkid hlens hln
       by_cases h0:0<j
       ·obtain⟨_,_,d0,_,_,_⟩:=hc (j-1) (by omega)
        have d0:=(HKW.out.below.cell (p:=⟨b,o+(j-1)*3,none⟩) hb).trans d0;have hbw:b<wr.heap.size:=World.block_lt_of_cell? wr _ d0;have d0:=(hb1.cell (p:=⟨b,o+(j-1)*3,none⟩) hbw).trans d0;obtain⟨pk,hpk⟩:∃ x,x=(ks[j-1]).1:=⟨_,rfl⟩;rw[← hpk]at d0;obtain⟨lb,hlb⟩:∃ z,Op.bytesLess pk.toList key.toList=z:=⟨_,rfl⟩
        have hkm:IntKind.i64.wrap ((j:Int)-1)=((j-1:Nat):Int):=by rw[IntKind.wrap_i64];omega
        have hkm2:((j-1:Nat):Int)<(nk:Int):=by omega
        have hkm3:(0:Int)≤((j-1:Nat):Int):=by omega
        have HLB:Hid (ltS (ks[j-1]).1 (ks[j]).1↔lb=true):=by unfold Hid;rw[← hlb];unfold ltS;rw[← hpk,← hkey]
        have HK0:=Lib.hid (HK0.out.cons_of d0);clear hpk hc hbw hkey;have fz:decide ((0:Int)<(j:Int))=true:=decide_eq_true (by omega);have HKc:=Lib.hid HK0.out.drew;obtain⟨s0,s1,s2,s3,s4,s5,-⟩:=HK0.out.cj;clear hb1 HK0 p0 p1 p2;go_wp2_with fail;rw[← HP.out,← HW1.out];refine wp_region_held_drew (S:=fun W=>W.cell? ⟨b,o+(j-1)*3,none⟩=some (.string pk)∧W.cell? ⟨p,0,none⟩=some (.string key)∧W.cell? ⟨p,1,none⟩=some (.slice Ae' ne' ce')∧W.cell? ⟨p,2,none⟩=some (.slice Ak' nk' ck')∧W.cell? ⟨g,0,none⟩=some (.slice Ae k ce)∧W.cell? ⟨g,1,none⟩=some (.slice (some ⟨b,o,none⟩) nk ck)) (by kernel_rfl) (by go_keep) (fun hHeld=>?_);refine Tk 0 48 ?_;refine Tk 1 49 ?_
        cases kb with
        | true=>
         refine Tc 2 (fun K hK=>?_);go_simp;(go_at_call 129;refine (HKEY _).out.mono ?_;rintro e w2 ⟨rfl,rfl⟩);refine Th hK ?_ (fun hHeld2=>?_)
         ·exact hHeld
         clear hK K hHeld;have hHeld:=hHeld2;clear hHeld2;refine Tk 3 51 ?_;refine Tk 4 52 ?_;refine Tk 5 53 ?_;refine Tk 6 54 ?_;refine Tk 7 55 ?_;refine Tk 8 56 ?_;refine Tk 9 57 ?_;refine Tk 10 58 ?_;refine Tk 11 59 ?_;refine Tk 12 60 ?_;refine Tk 13 61 ?_;refine Tk 14 62 ?_;refine Tk 15 63 ?_;refine Tk 16 64 ?_
         cases lb with
         | true=>
          refine Tk 17 65 ?_;refine Tk 18 66 ?_;refine Tk 19 67 ?_;refine Tk 20 68 ?_;refine Tk 21 69 ?_;refine Tk 22 70 ?_
          cases eb with
          | true=>
           refine Tc 23 (fun K hK=>?_);go_simp;(go_at_call 130;refine (HEMP _).out.mono ?_;rintro e w2 ⟨rfl,hb2⟩;have HKc:=Lib.hid (HKc.out.later hb2);clear hb2);clear hHeld;refine Th hK ?_ (fun hHeld=>?_)
           ·exact⟨HKc.out.c0,HKc.out.c1,HKc.out.c2,HKc.out.c3,HKc.out.c4,HKc.out.c5⟩
           clear hK K;refine Tk 24 72 ?_;refine Tk 25 73 ?_;refine Tn 26 74 ?_;refine Tn 27 75 ?_;refine Tn 28 76 ?_;refine Tn 29 77 ?_;refine Tn 30 78 ?_;refine Tn 31 79 ?_;refine Tk 32 80 ?_;refine wpAnyH_done (by kernel_rfl) ?_ _;go_wp2_with fail;go_ret;exact⟨Dt.ret_bool (by rw[HZ.out];exact (rightB_noK j hkl (fun h=>absurd (HNON.out.1 h.2.2.1) (by simp))).symm),HKc.out.below⟩
          | false=>
           refine Tc 23 (fun K hK=>?_);go_simp;(go_at_call 130;refine (HEMP _).out.mono ?_;rintro e w2 ⟨rfl,hb2⟩;have HKc:=Lib.hid (HKc.out.later hb2);clear hb2);clear hHeld;refine Th hK ?_ (fun hHeld=>?_)
           ·exact⟨HKc.out.c0,HKc.out.c1,HKc.out.c2,HKc.out.c3,HKc.out.c4,HKc.out.c5⟩
           clear hK K;refine Tk 24 72 ?_;refine Tk 25 73 ?_;refine Tk 26 74 ?_;refine Tk 27 75 ?_;refine Tk 28 76 ?_;refine Tk 29 77 ?_
           cases rb with
           | true=>
            refine Tc 30 (fun K hK=>?_);go_simp;(go_at_call 100;refine (HRIGHT.out _ HKc.out.below).mono ?_;rintro e w2 ⟨rfl,hb2⟩;have HKc:=Lib.hid (HKc.out.later hb2);clear hb2);clear hHeld;refine Th hK ?_ (fun hHeld=>?_)
            ·exact⟨HKc.out.c0,HKc.out.c1,HKc.out.c2,HKc.out.c3,HKc.out.c4,HKc.out.c5⟩
            clear hK K;refine Tk 31 79 ?_;refine Tk 32 80 ?_;refine wpAnyH_done (by kernel_rfl) ?_ _;have HG2:Hid (GoodK d ks (j+1)):=HGK.out.succ hkl ⟨HKB.out.2 rfl,fun _=>HLB.out.2 rfl,HNON.out.2 rfl,HRB.out.2 rfl⟩;have HK2:=Lib.hid HKc.out.tail.tail.tail.tail;go_wp2_with fail;go_roundw
            case rel=>exact⟨j+1,by omega,by go_num,HG2.out,HK2.out⟩
            case measure=>simp[intOf];omega
           | false=>
            refine Tc 30 (fun K hK=>?_);go_simp;(go_at_call 100;refine (HRIGHT.out _ HKc.out.below).mono ?_;rintro e w2 ⟨rfl,hb2⟩;have HKc:=Lib.hid (HKc.out.later hb2);clear hb2);clear hHeld;refine Th hK ?_ (fun hHeld=>?_)
            ·exact⟨HKc.out.c0,HKc.out.c1,HKc.out.c2,HKc.out.c3,HKc.out.c4,HKc.out.c5⟩
            clear hK K;refine Tk 31 79 ?_;refine Tk 32 80 ?_;refine wpAnyH_done (by kernel_rfl) ?_ _;go_wp2_with fail;go_ret;exact⟨Dt.ret_bool (by rw[HZ.out];exact (rightB_noK j hkl (fun h=>absurd (HRB.out.1 h.2.2.2) (by simp))).symm),HKc.out.below⟩
         | false=>
          refine Tk 17 65 ?_;refine Tk 18 66 ?_;refine Tk 19 67 ?_;refine Tk 20 68 ?_;refine Tn 21 69 ?_;refine Tn 22 70 ?_;refine Tn 23 71 ?_;refine Tk 24 72 ?_;refine Tk 25 73 ?_;refine Tn 26 74 ?_;refine Tn 27 75 ?_;refine Tn 28 76 ?_;refine Tn 29 77 ?_;refine Tn 30 78 ?_;refine Tn 31 79 ?_;refine Tk 32 80 ?_;refine wpAnyH_done (by kernel_rfl) ?_ _;go_wp2_with fail;go_ret;exact⟨Dt.ret_bool (by rw[HZ.out];exact (rightB_noK j hkl (fun h=>absurd (HLB.out.1 (h.2.1 h0)) (by simp))).symm),HKc.out.below⟩
        | false=>
         refine Tc 2 (fun K hK=>?_);go_simp;(go_at_call 129;refine (HKEY _).out.mono ?_;rintro e w2 ⟨rfl,rfl⟩);refine Th hK ?_ (fun hHeld2=>?_)
         ·exact hHeld
         clear hK K hHeld;have hHeld:=hHeld2;clear hHeld2;refine Tk 3 51 ?_;refine Tk 4 52 ?_;refine Tn 5 53 ?_;refine Tn 6 54 ?_;refine Tn 7 55 ?_;refine Tn 8 56 ?_;refine Tn 9 57 ?_;refine Tn 10 58 ?_;refine Tn 11 59 ?_;refine Tn 12 60 ?_;refine Tn 13 61 ?_;refine Tn 14 62 ?_;refine Tn 15 63 ?_;refine Tn 16 64 ?_;refine Tn 17 65 ?_;refine Tn 18 66 ?_;refine Tk 19 67 ?_;refine Tk 20 68 ?_;refine Tn 21 69 ?_;refine Tn 22 70 ?_;refine Tn 23 71 ?_;refine Tk 24 72 ?_;refine Tk 25 73 ?_;refine Tn 26 74 ?_;refine Tn 27 75 ?_;refine Tn 28 76 ?_;refine Tn 29 77 ?_;refine Tn 30 78 ?_;refine Tn 31 79 ?_;refine Tk 32 80 ?_;refine wpAnyH_done (by kernel_rfl) ?_ _;go_wp2_with fail;go_ret;exact⟨Dt.ret_bool (by rw[HZ.out];exact (rightB_noK j hkl (fun h=>absurd (HKB.out.1 h.1) (by simp))).symm),HKc.out.below⟩
       ·clear hc hkey
        have fz:decide ((0:Int)<(j:Int))=false:=decide_eq_false (by omega);have HKc:=Lib.hid HK0.out.drew;obtain⟨s0,s1,s2,s3,s4,-⟩:=HK0.out.cj;clear hb1 HK0 p0 p1 p2;go_wp2_with fail;rw[← HP.out,← HW1.out];refine wp_region_held_drew (S:=fun W=>W.cell? ⟨p,0,none⟩=some (.string key)∧W.cell? ⟨p,1,none⟩=some (.slice Ae' ne' ce')∧W.cell? ⟨p,2,none⟩=some (.slice Ak' nk' ck')∧W.cell? ⟨g,0,none⟩=some (.slice Ae k ce)∧W.cell? ⟨g,1,none⟩=some (.slice (some ⟨b,o,none⟩) nk ck)) (by kernel_rfl) (by go_keep) (fun hHeld=>?_);refine Tk 0 48 ?_;refine Tk 1 49 ?_
        cases kb with
        | true=>
         refine Tc 2 (fun K hK=>?_);go_simp;(go_at_call 129;refine (HKEY _).out.mono ?_;rintro e w2 ⟨rfl,rfl⟩);refine Th hK ?_ (fun hHeld2=>?_)
         ·exact hHeld
         clear hK K hHeld;have hHeld:=hHeld2;clear hHeld2;refine Tk 3 51 ?_;refine Tk 4 52 ?_;refine Tk 5 53 ?_;refine Tk 6 54 ?_;refine Tk 7 55 ?_;refine Tn 8 56 ?_;refine Tn 9 57 ?_;refine Tn 10 58 ?_;refine Tn 11 59 ?_;refine Tn 12 60 ?_;refine Tn 13 61 ?_;refine Tn 14 62 ?_;refine Tn 15 63 ?_;refine Tn 16 64 ?_;refine Tn 17 65 ?_;refine Tk 18 66 ?_;refine Tk 19 67 ?_;refine Tk 20 68 ?_;refine Tk 21 69 ?_;refine Tk 22 70 ?_
         cases eb with
         | true=>
          refine Tc 23 (fun K hK=>?_);go_simp;(go_at_call 130;refine (HEMP _).out.mono ?_;rintro e w2 ⟨rfl,hb2⟩;have HKc:=Lib.hid (HKc.out.later hb2);clear hb2);clear hHeld;refine Th hK ?_ (fun hHeld=>?_)
          ·exact⟨HKc.out.c0,HKc.out.c1,HKc.out.c2,HKc.out.c3,HKc.out.c4⟩
          clear hK K;refine Tk 24 72 ?_;refine Tk 25 73 ?_;refine Tn 26 74 ?_;refine Tn 27 75 ?_;refine Tn 28 76 ?_;refine Tn 29 77 ?_;refine Tn 30 78 ?_;refine Tn 31 79 ?_;refine Tk 32 80 ?_;refine wpAnyH_done (by kernel_rfl) ?_ _;go_wp2_with fail;go_ret;exact⟨Dt.ret_bool (by rw[HZ.out];exact (rightB_noK j hkl (fun h=>absurd (HNON.out.1 h.2.2.1) (by simp))).symm),HKc.out.below⟩
         | false=>
          refine Tc 23 (fun K hK=>?_);go_simp;(go_at_call 130;refine (HEMP _).out.mono ?_;rintro e w2 ⟨rfl,hb2⟩;have HKc:=Lib.hid (HKc.out.later hb2);clear hb2);clear hHeld;refine Th hK ?_ (fun hHeld=>?_)
          ·exact⟨HKc.out.c0,HKc.out.c1,HKc.out.c2,HKc.out.c3,HKc.out.c4⟩
          clear hK K;refine Tk 24 72 ?_;refine Tk 25 73 ?_;refine Tk 26 74 ?_;refine Tk 27 75 ?_;refine Tk 28 76 ?_;refine Tk 29 77 ?_
          cases rb with
          | true=>
           refine Tc 30 (fun K hK=>?_);go_simp;(go_at_call 100;refine (HRIGHT.out _ HKc.out.below).mono ?_;rintro e w2 ⟨rfl,hb2⟩;have HKc:=Lib.hid (HKc.out.later hb2);clear hb2);clear hHeld;refine Th hK ?_ (fun hHeld=>?_)
           ·exact⟨HKc.out.c0,HKc.out.c1,HKc.out.c2,HKc.out.c3,HKc.out.c4⟩
           clear hK K;refine Tk 31 79 ?_;refine Tk 32 80 ?_;refine wpAnyH_done (by kernel_rfl) ?_ _;have HG2:Hid (GoodK d ks (j+1)):=HGK.out.succ hkl ⟨HKB.out.2 rfl,fun h=>absurd h h0,HNON.out.2 rfl,HRB.out.2 rfl⟩;have HK2:=Lib.hid HKc.out.tail.tail.tail;go_wp2_with fail;go_roundw
           case rel=>exact⟨j+1,by omega,by go_num,HG2.out,HK2.out⟩
           case measure=>simp[intOf];omega
          | false=>
           refine Tc 30 (fun K hK=>?_);go_simp;(go_at_call 100;refine (HRIGHT.out _ HKc.out.below).mono ?_;rintro e w2 ⟨rfl,hb2⟩;have HKc:=Lib.hid (HKc.out.later hb2);clear hb2);clear hHeld;refine Th hK ?_ (fun hHeld=>?_)
           ·exact⟨HKc.out.c0,HKc.out.c1,HKc.out.c2,HKc.out.c3,HKc.out.c4⟩
           clear hK K;refine Tk 31 79 ?_;refine Tk 32 80 ?_;refine wpAnyH_done (by kernel_rfl) ?_ _;go_wp2_with fail;go_ret;exact⟨Dt.ret_bool (by rw[HZ.out];exact (rightB_noK j hkl (fun h=>absurd (HRB.out.1 h.2.2.2) (by simp))).symm),HKc.out.below⟩
        | false=>
         refine Tc 2 (fun K hK=>?_);go_simp;(go_at_call 129;refine (HKEY _).out.mono ?_;rintro e w2 ⟨rfl,rfl⟩);refine Th hK ?_ (fun hHeld2=>?_)
         ·exact hHeld
         clear hK K hHeld;have hHeld:=hHeld2;clear hHeld2;refine Tk 3 51 ?_;refine Tk 4 52 ?_;refine Tn 5 53 ?_;refine Tn 6 54 ?_;refine Tn 7 55 ?_;refine Tn 8 56 ?_;refine Tn 9 57 ?_;refine Tn 10 58 ?_;refine Tn 11 59 ?_;refine Tn 12 60 ?_;refine Tn 13 61 ?_;refine Tn 14 62 ?_;refine Tn 15 63 ?_;refine Tn 16 64 ?_;refine Tn 17 65 ?_;refine Tn 18 66 ?_;refine Tk 19 67 ?_;refine Tk 20 68 ?_;refine Tn 21 69 ?_;refine Tn 22 70 ?_;refine Tn 23 71 ?_;refine Tk 24 72 ?_;refine Tk 25 73 ?_;refine Tn 26 74 ?_;refine Tn 27 75 ?_;refine Tn 28 76 ?_;refine Tn 29 77 ?_;refine Tn 30 78 ?_;refine Tn 31 79 ?_;refine Tk 32 80 ?_;refine wpAnyH_done (by kernel_rfl) ?_ _;go_wp2_with fail;go_ret;exact⟨Dt.ret_bool (by rw[HZ.out];exact (rightB_noK j hkl (fun h=>absurd (HKB.out.1 h.1) (by simp))).symm),HKc.out.below⟩
      ·obtain rfl:j=nk:=by omega
       go_wp2_with fail;go_ret;exact⟨Dt.ret_bool (by rw[HZ.out];exact (rightB_yes (by rw[HLE.out];exact HGE.out) (by rw[HLK.out];exact HGK.out)).symm),HKW.out.below⟩
theorem rightT_any (t:T) (Ae Ak:Option Addr) (ne nk ce ck:Nat) (w:World) (hl:LenT reachBytes t) (hr:RdT w w.heap.size t ⟨Ae,ne,ce⟩ ⟨Ak,nk,ck⟩) :
  Calls Tryz.prog 67 #[.agg #[.slice Ae ne ce,.slice Ak nk ck]] w fun e w'=>e = .returned (.bool (rightB 5 t))∧Below w.heap.size w w':=by
 have hb1:Below w.heap.size w (w.alloc (.cells #[.slice Ae ne ce,.slice Ak nk ck] 35)):=Dt.box_below _ _ _;have HC:=Lib.hid (right_any 5 t Ae Ak ne nk ce ck _ (by omega) hl (RdT.more hb1.size _ (RdT.below hr hb1)));have HB:=Lib.hid hb1;clear hl hr hb1;go_enter Tryz.func67,Tryz.ntmps67;go_wp2_with fail;refine HC.out.mono ?_;rintro e w2 ⟨rfl,hb2⟩;have HB2:=Lib.hid (HB.out.trans (hb2.mono HB.out.size));clear hb2;go_wp2_with fail;go_ret;exact⟨rfl,HB2.out⟩
end Tr
end Go.Proofs.YtcbpgemiffmieaaGreat
