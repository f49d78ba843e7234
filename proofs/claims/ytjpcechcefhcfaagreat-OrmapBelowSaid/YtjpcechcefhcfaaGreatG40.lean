/- Texts of the lower layers, and of layer 9, put together. -/
import Derived.Test.YtjpcechcefhcfaaGreatCtxOf
import Derived.Test.YtjpcechcefhcfaaGreatG20
import Derived.Test.YtjpcechcefhcfaaGreatG00
import Derived.Laws.IdiomArrays
import Derived.Deep.Strs
import Derived.Test.YtjpcechcefhcfaaGreatTreeBuild
import Derived.Test.YtjpcechcefhcfaaGreatG30
import Derived.Test.YtjpcechcefhcfaaGreatG10
namespace Go.Proofs.YtjpcechcefhcfaaGreat
open Go.ChangeShapes Go.WideShapes Go.ChangeAt Go.RowKit
namespace Cx
open Sp Rw
set_option maxRecDepth 100000 in
set_option maxHeartbeats 2000000 in
theorem refofC_own (l:List (Int×Int)) (n:Nat) (A:Option Addr) (c:Nat) (w:World) (hl:l.length=n) (hn:n≤1000) (hr:Rd w w.heap.size 2 A n c (l.flatMap dotC)) (hg:goodD l) (u:List S3) (hu:OfC l u) (q:Nat) (hq:u.length=q) (hq8:q≤800000) :
    Calls Tryz.prog 53 #[.slice A n c] w fun e w'=>∃ A' c',e = .returned (.slice A' q c')∧Own w' w.heap.size 105 3 A' q c' (spsC u)∧Below w.heap.size w w':=by
  have HUP:Hid (pre (fun d:Nat=>part u d) 4=u):=by
    unfold Hid;rw[pre_four];refine ext_part (rise_glue _) hu.right.rise fun d hd=>?_;rw[part_glue _ hd]
    have e:((d.toNat:Nat):Int)=d:=by have:=hd.1;omega
    rw[e]
  have HUB:Hid (∀ d:Nat,d<4→∀ x,SetIs (nums l d) x→x=part u d):=fun d hd x hx=>
    ext hx.1 (hu.right.part d (by unfold Cen;omega)) fun m=>by
      have h1:=hx.2 m;have h2:=hu.has d m (by unfold Cen;omega);unfold hasC at h2;rw[← nums_mem]at h2
      cases e1:hasB x m <;> cases e2:hasB (part u d) m <;> simp_all
  have HUL:Hid (∀ d:Nat,d≤4→(pre (fun d:Nat=>part u d) d).length≤q):=by
    have h4:(pre (fun d:Nat=>part u d) 4).length=q:=by rw[HUP.out,hq]
    intro d hd
    have hmono:∀ i j:Nat,i≤j→(pre (fun d:Nat=>part u d) i).length≤(pre (fun d:Nat=>part u d) j).length:=by
      intro i j hij
      induction j with
      | zero => obtain rfl : i = 0 := by omega
                exact Nat.le_refl _
      | succ j ih=>
        rcases (by omega:i≤j∨i=j+1)with h | rfl
        · have:=ih h
          simp only[pre,List.length_append];omega
        · exact Nat.le_refl _
    have:=hmono d 4 hd;omega
  have HR:=Lib.hid hr;have HL:=Lib.hid hl;have HGD:=Lib.hid hg;have HQ:=Lib.hid hq;clear hr hl hg hq hu;go_enter Tryz.func53,Tryz.ntmps53;go_wp2
  go_loopw [3,7] (fun v i wr=>∃ (d m:Nat) (A':Option Addr) (c':Nat),d≤4∧v = .slice A' m c'∧i = .int .i64 d∧Hid ((pre (fun d:Nat=>part u d) d).length=m)∧Hid (Own wr w.heap.size 105 3 A' m c' (spsC (pre (fun d:Nat=>part u d) d)))∧Hid (Below w.heap.size w wr)) (fun _ i _=>4-(intOf i).toNat)
  case atStart=>exact⟨0,0,none,0,by omega,rfl,rfl,rfl,⟨World.ownsRow_nil _ _ _ _,by simp[pre,spsC]⟩,Below.refl _ _⟩
  case round=>
    obtain⟨d,m1,A',c',hd,rfl,rfl,HM,HO,HB⟩:=hrel
    by_cases hd4:d<4
    · obtain⟨W0,hW0⟩:∃ W0,W0=wr:=⟨_,rfl⟩
      rw[← hW0]at HO HB;have HW0:=Lib.hid hW0
      have HQ4:Hid (∀ x:Nat,(part u d).length=x→m1+x≤800000):=fun x hx=>by
        have:=HUL.out (d+1) (by omega);simp only[pre,List.length_append,Cx.spans_len]at this;have e1:=HM.out;omega
      clear hW0;go_wp2
      go_loopw [5,12] (fun v i wr2=>∃ (k m2:Nat) (A2:Option Addr) (c2:Nat),k≤n∧v = .slice A2 m2 c2∧i = .int .i64 k∧Hid ((nums (l.take k) d).length=m2)∧Hid (Own wr2 W0.heap.size 2 1 A2 m2 c2 (intsC (nums (l.take k) d)))∧Hid (Below W0.heap.size W0 wr2)) (fun _ i _=>n-(intOf i).toNat)
      case atStart=>exact⟨0,0,none,0,by omega,rfl,rfl,rfl,⟨World.ownsRow_nil _ _ _ _,by simp[nums,intsC]⟩,(by unfold Hid;rw[HW0.out];exact Below.refl _ _)⟩
      case round=>
        clear HW0;obtain⟨k,m2,A2,c2,hk,rfl,rfl,HM2,HO2,HB2⟩:=hrel;have HBW:Hid (Below w.heap.size w wr):=HB.out.trans (HB2.out.mono HB.out.size)
        by_cases hlt:k<n
        · have hkl:k<l.length:=by rw[HL.out];exact hlt
          obtain⟨b1,o,rfl,hbl,hc⟩:=rd_dot HR.out hlt;obtain⟨q0,q1⟩:=hc k hkl;obtain⟨p,hp⟩:∃ p,p=l[k]:=⟨_,rfl⟩;have htk:=nums_take hkl hp (d:Int);rw[← hp]at q0 q1;obtain⟨dc,y⟩:=p;have q0:=(HBW.out.cell (p:=⟨b1,o+k*2,none⟩) hbl).trans q0;have q1:=(HBW.out.cell (p:=⟨b1,o+k*2+1,none⟩) hbl).trans q1;dsimp only at q0 q1 htk;clear hc hp
          by_cases he:dc=(d:Int)
          · have f1:(dc==(d:Int))=true:=by simpa using he
            rw[if_pos he]at htk
            have hml:m2≤1000:=by rw[← HM2.out];exact Nat.le_trans (nums_len _ _) (by rw[List.length_take];omega)
            obtain⟨v3,w3,hrun,ho3,hb3⟩:=run_push Tryz.underlying112 infoI rfl (by omega) (by omega) wr W0.heap.size wr.heap.size rfl HB2.out.size _ m2 _ HO2.out.row [.int .i64 y] 1 rfl (by intro u hu;simp at hu;rcases hu with rfl;rfl) (by omega)
            have e2:intsC (nums (l.take k) d)++[.int .i64 y]=intsC (nums (l.take (k+1)) d):=by rw[htk,intsC_append];rfl
            rw[e2]at ho3;obtain⟨A3,c3,rfl,ho4⟩:=Own.of_row ho3 (intsC_one _);have Hrun:=Lib.hid hrun;have HO3:=Lib.hid ho4
            have HM3:Hid ((nums (l.take (k+1)) d).length=m2+1):=by unfold Hid;rw[htk,List.length_append,HM2.out];rfl
            have HB3:=Lib.hid (HB2.out.trans hb3);clear hrun ho3 ho4 hb3 htk e2 HO2 HM2 hml;go_wp2_with (at_builtin;refine Lib.wpList_append_run _ rfl _ _ _ _ rfl _ _ rfl rfl _ _ Hrun.out ?_);exact⟨⟨.slice A3 (m2+1) c3,_,.int .i64 ((k:Int)+1),⟨k+1,by omega,m2+1,A3,c3,rfl,by go_num,HM3.out,HO3.out⟩,rfl,rfl,rfl⟩,by simp[intOf];omega⟩
          · have f1:(dc==(d:Int))=false:=by simpa using he
            rw[if_neg he]at htk;rw[← htk]at HM2 HO2;clear htk;go_wp2;go_roundw
            case rel=>exact⟨k+1,m2,A2,c2,by omega,rfl,by go_num,HM2.out,HO2.out,HB2.out⟩
            case measure=>simp[intOf];omega
        · obtain rfl:k=n:=by omega
          have hall:l.take k=l:=List.take_of_length_le (by rw[HL.out];omega);rw[hall]at HO2 HM2
          have HNL:Hid ((nums l d).length≤1000):=by unfold Hid;have:=nums_len l d;have:=HL.out;omega
          have HC:=Lib.hid (refof_any (nums l d) m2 A2 c2 wr HM2.out (by have:=HM2.out;have:=HNL.out;omega) HO2.out.rd (fun x hx=>by have:=(good_num (HGD.out _ (nums_mem.1 hx))).2;exact this))
          have HC':Hid (Calls Tryz.prog 83 #[.slice A2 m2 c2] wr fun e w'=>∃ A' q' c',e = .returned (.slice A' q' c')∧Hid ((part u d).length=q')∧Hid (Rd w' w'.heap.size 2 A' q' c' (runsC (part u d)))∧Below wr.heap.size wr w'):=by
            refine HC.out.mono ?_;rintro e w' ⟨x,A',c',rfl,h1,ho,hb⟩;have:=HUB.out d hd4 x h1;subst this;exact⟨A',_,c',rfl,rfl,ho.rd,hb⟩
          have HO5:Hid (Own wr w.heap.size 105 3 A' m1 c' (spsC (pre (fun d:Nat=>part u d) d))):=own_later HO.out HB2.out;clear hall HC HO HB2;go_wp2_with fail;refine HC'.out.mono ?_;rintro e w3 ⟨A3,q3,c3,rfl,HL3,HR3,hb3⟩;have HB3:=Lib.hid (HBW.out.trans (hb3.mono HBW.out.size));have HO3:=Lib.hid (own_later HO5.out hb3);clear hb3;have HC4:=Lib.hid (spans_any (part u d) q3 A3 c3 d w3 HL3.out (by have:=HQ4.out q3 HL3.out;omega) HR3.out);go_wp2_with fail;refine HC4.out.mono ?_;rintro e w4 ⟨A4,c4,rfl,ho4,hb4⟩;have hO4:=own_later HO3.out hb4;have hB4:=HB3.out.trans (hb4.mono HB3.out.size);obtain⟨A5,c5,w5,hrun,ho5,hb5⟩:=appsC hO4 ho4.rd (by have:=HQ4.out q3 HL3.out;omega) hB4.size;have Hrun:=Lib.hid hrun;have HO6:=Lib.hid ho5;have HB5:=Lib.hid (hB4.trans hb5)
          have HM5:Hid ((pre (fun d:Nat=>part u d) (d+1)).length=m1+q3):=by
            simp only[pre,List.length_append,Cx.spans_len,Hid];rw[HM.out,HL3.out]
          clear hb4 ho4 hO4 hB4 hrun ho5 hb5;go_wp2_with (at_builtin;refine Lib.wpList_append_run _ rfl _ _ _ _ rfl _ _ rfl rfl _ _ Hrun.out ?_);go_roundw
          case rel=>exact⟨d+1,m1+q3,A5,c5,by omega,rfl,by go_num,HM5.out,HO6.out,HB5.out⟩
          case measure=>simp[intOf];omega
    · obtain rfl:d=4:=by omega
      have HE:Hid (m1=q):=by unfold Hid;rw[← HM.out,HUP.out,HQ.out]
      rw[HUP.out,HE.out]at HO;rw[HE.out];go_wp2;go_ret;exact⟨_,_,rfl,HO.out,HB.out⟩
end Cx
end Go.Proofs.YtjpcechcefhcfaaGreat
namespace Go.Proofs.YtjpcechcefhcfaaGreat
open Go.ChangeShapes Go.WideShapes Go.ChangeAt Go.RowKit
namespace Cx
open Sp Rw
set_option maxRecDepth 100000
theorem ctx_of_trod {H:Type} {enc:TypeId×Value→H} {W:World} {A:Option Addr} {len cap fuel:Nat} {x:DataW H×List MemPlace}
  (h:DataW.trod enc Tryz.prog W 0 (fun _=>true) true fuel 27 (Value.slice A len cap).cells.toList=some x) :
  ∃ l:List S3,l.length=len∧Rd W W.heap.size 3 A len cap (spsC l)∧len≤maxLen:=by
 refine rd_of_trod spC spC_len spC_one (by omega) Tryz.underlying27 (by kernel_rfl) ?_ h;intro n cs y hy;obtain⟨y0,y1,y2,m,_,hlen,h0,h1,h2⟩:=Go.Deep.trod_struct3 Tryz.underlying105 hy
 have hc3:Tryz.prog.cellsOf 105=3:=by kernel_rfl
 have hci:Tryz.prog.cellsOf 3=1:=by kernel_rfl
 have hcj:Tryz.prog.cellsOf 2=1:=by kernel_rfl
 rw[hc3]at hlen
 obtain⟨c0,c1,c2,rfl⟩:∃ c0 c1 c2,cs=[c0,c1,c2]:=by
  match cs,hlen with
  | [c0,c1,c2],_=>exact⟨_,_,_,rfl⟩
 simp only[hci,hcj]at h0 h1 h2;obtain⟨a,e0,_,w0⟩:=DataW.trod_int Tryz.underlying3 h0;obtain⟨b,e1,_,w1⟩:=DataW.trod_int Tryz.underlying2 h1;obtain⟨d,e2,_,w2⟩:=DataW.trod_int Tryz.underlying2 h2
 simp at e0 e1 e2
 subst e0;subst e1;subst e2;exact⟨(a,b,d),rfl⟩
end Cx
end Go.Proofs.YtjpcechcefhcfaaGreat
namespace Go.Proofs.YtjpcechcefhcfaaGreat
open Go.ChangeShapes Go.WideShapes Go.ChangeAt Go.RowKit
namespace Tr
open Sp Rw
theorem nodes_get (t:T):∀ p:List ByteArray,nodes (getT t p)≤nodes t
 | []=>Nat.le_refl _
 | k::p=>by
  unfold getT;refine Nat.le_trans (nodes_get _ p) ?_
  cases t with
  | mk es ks=>
   show nodes (kidAt ks k)≤_
   rcases kidAt_mem (ks:=ks) (key:=k)with ⟨x,h1,_,h3⟩ | ⟨_,h2⟩
   ·rw[h3];exact nodes_kid h1
   ·rw[h2];unfold none_;rw[nodes_mk];simp
theorem right_get {d:Nat} : ∀ {t:T},RightT (d+1) t→∀ p:List ByteArray,RightT (d+1) (getT t p)
 | _,h,[]=>h
 | _,h,k::p=>right_get (h.kid k) p
theorem get_snoc (t:T):∀ (p:List ByteArray) (k:ByteArray),getT t (p++[k])=kidAt (getT t p).ks k
 | [],_=>rfl
 | x::p,k=>get_snoc (kidAt t.ks x) p k
set_option maxRecDepth 100000 in
set_option maxHeartbeats 4000000 in
theorem refget_any (d:Nat) (t:T) (Ae Ak:Option Addr) (ne nk ce ck:Nat) (w:World) (l:List ByteArray) (A:Option Addr) (n c:Nat) (hl9:l.length=n) (hn9:n≤100000) (hrl:Rd w w.heap.size 1 A n c (strs l)) (ht:RightT (d+1) t) (hn:nodes t≤100000) (hr:RdT w w.heap.size t ⟨Ae,ne,ce⟩ ⟨Ak,nk,ck⟩) :
  Calls Tryz.prog 28 #[.agg #[.slice Ae ne ce,.slice Ak nk ck],.slice A n c] w (fun e w'=>∃ Ae ne ce Ak nk ck,e = .returned (.agg #[.slice Ae ne ce,.slice Ak nk ck])∧RdO w' (fun b=>w.heap.size≤b) (getT t l) ⟨Ae,ne,ce⟩ ⟨Ak,nk,ck⟩∧Below w.heap.size w w'):=by
 have HL9:=Lib.hid hl9;have HRL:=Lib.hid hrl;have HT:=Lib.hid ht;have HN:=Lib.hid hn;have HR:=Lib.hid hr;clear hl9 hrl ht hn hr;obtain⟨g,hg⟩:∃ g,g=w.heap.size:=⟨_,rfl⟩;have HK:=Lib.hid (tree_box w Ae Ak ne nk ce ck);rw[← hg]at HK;obtain⟨W0,hW0⟩:∃ W,W=w.alloc (.cells #[.slice Ae ne ce,.slice Ak nk ck] 25):=⟨_,rfl⟩;rw[← hW0]at HK;have HG:=Lib.hid hg;have HW0:=Lib.hid hW0;have k0:=HK.out.c0;have k1:=HK.out.c1;clear hg hW0;obtain⟨q,hq⟩:∃ q,q=W0.heap.size:=⟨_,rfl⟩;obtain⟨W1,hW1⟩:∃ W,W=W0.alloc (.cells #[.slice none 0 0,.slice none 0 0] 25):=⟨_,rfl⟩
 have hb1:Below W0.heap.size W0 W1:=by rw[hW1];exact Dt.box_below _ _ _
 have q0:W1.cell? ⟨q,0,none⟩=some (.slice none 0 0):=by rw[hW1,hq];go_simp
 have q1:W1.cell? ⟨q,1,none⟩=some (.slice none 0 0):=by rw[hW1,hq];go_simp
 have HFQ:Hid (Free q W1):=⟨by rw[hW1,hq];simp,fun j=>by rw[hW1,hq];go_simp⟩;have HFG:Hid (Free g W1):=(show Free g W0 from⟨World.block_lt_of_cell? W0 _ HK.out.c0,fun j=>by rw[HW0.out,HG.out];go_simp⟩).later hb1;have HKB:=Lib.hid (((HK.out.later hb1).cons_of q1).cons_of q0)
 have HQ:Hid (q=g+1):=by unfold Hid;rw[hq,HW0.out,HG.out];simp
 have hgW:g<W0.heap.size:=World.block_lt_of_cell? W0 _ HK.out.c0
 have hgq:g≠q:=by omega
 have hgq2:¬q=g:=by omega
 have hwg:w.heap.size≤g:=by have:=HG.out;omega
 have hwq:w.heap.size≤q:=by omega
 have HW1:=Lib.hid hW1;have HBq:Hid (Below w.heap.size w W1):=HKB.out.below;clear hq hW1 hb1 q0 q1 k0 k1;go_enter Tryz.func28,Tryz.ntmps28;go_wp2_with fail;rw[← HG.out,← HW0.out,← HQ.out,← HW1.out];refine (leaves_any t Ae Ak ne nk ce ck W1 (by have:=HN.out;omega) (RdT.more HKB.out.below.size _ (RdT.below HR.out HKB.out.below))).mono ?_;rintro e w2 ⟨A2,c2,rfl,hl2,hb2⟩;obtain⟨m2,hm2⟩:∃ z,z=(leaves t).length:=⟨_,rfl⟩;rw[← hm2]at hl2 ⊢;have HL2:=Lib.hid hl2;have HK2:=Lib.hid (HKB.out.later hb2);have HFQ2:=Lib.hid (HFQ.out.later hb2)
 have hm25:m2≤100000:=by rw[hm2];exact Nat.le_trans (leaves_nodes t) HN.out
 clear hl2 hb2 hm2;go_wp2_with fail
 go_loopw [5,11] (fun s i wr=>∃ (k:Nat) (Ax:Option Addr) (m cx:Nat),k≤n∧i = .int .i64 k∧s = .slice Ax m cx∧m≤100000∧Hid (LfRd wr wr.heap.size Ax m cx (leaves (getT t (l.take k))))∧Hid (Kept [(⟨q,0,none⟩,.slice none 0 0),(⟨q,1,none⟩,.slice none 0 0),(⟨g,0,none⟩,.slice Ae ne ce),(⟨g,1,none⟩,.slice Ak nk ck)] w wr)∧Hid (Free q wr)) (fun _ i _=>n-(intOf i).toNat)
 case atStart=>exact⟨0,A2,m2,c2,by omega,rfl,rfl,hm25,HL2.out,HK2.out,HFQ2.out⟩
 case round=>
  obtain⟨k,Ax,m,cx,hk,rfl,rfl,hm5,HLF,HKW,HFQW⟩:=hrel
  by_cases hlt:k<n
  ·have hkl:k<l.length:=by rw[HL9.out];exact hlt
   obtain⟨b,o,rfl,hb,hc⟩:=HRL.out.at_ (by omega);obtain⟨x,hx⟩:∃ x,x=l[k]:=⟨_,rfl⟩;have cx9:=(HKW.out.below.cell (p:=⟨b,o+k,none⟩) hb).trans (hc k (.string x) (by rw[hx];simp[strs,hkl]));have hu:=right_get HT.out (l.take k);have hun:=under_any (leaves (getT t (l.take k))) m Ax cx x wr hm5 HLF.out
   have hul:under (leaves (getT t (l.take k))) x=leaves (getT t (l.take (k+1))):=by
    rw[under_leaves hu x,List.take_succ_eq_append_getElem hkl,get_snoc,hx]
   rw[hul]at hun;obtain⟨m3,hm3⟩:∃ z,z=(leaves (getT t (l.take (k+1)))).length:=⟨_,rfl⟩;rw[← hm3]at hun
   have hm35:m3≤100000:=by rw[hm3];exact Nat.le_trans (leaves_nodes _) (Nat.le_trans (nodes_get t _) HN.out)
   have HUN:=Lib.hid hun;clear hc hx hu hun hul hm3;go_wp2_with fail;refine HUN.out.mono ?_;rintro e w3 ⟨A3,c3,rfl,hl3,hb3⟩;have HL3:=Lib.hid hl3;have HK3:=Lib.hid (HKW.out.later hb3);have HFQ3:=Lib.hid (HFQW.out.later hb3);clear hl3 hb3 cx9;go_wp2_with fail;go_roundw
   case rel=>exact⟨k+1,A3,m3,c3,by omega,by go_num,rfl,hm35,HL3.out,HK3.out,HFQ3.out⟩
   case measure=>simp[intOf];omega
  ·obtain rfl:n=k:=by omega
   have hlf:=HLF.out;rw[List.take_of_length_le (by rw[HL9.out];omega)]at hlf;have HBU:=Lib.hid (build_any (d+1) (getT t l) (right_get HT.out l) Ax m cx wr (Nat.le_trans (nodes_get t l) HN.out) hlf);clear hlf;go_wp2_with fail;refine HBU.out.mono ?_;rintro e w5 ⟨Ae9,ne9,ce9,Ak9,nk9,ck9,rfl,hro,hb5⟩;have HK5:=Lib.hid (HKW.out.later hb5);have HFQ5:=Lib.hid (HFQW.out.later hb5);have HRO5:Hid (RdO w5 (fun b=>w.heap.size≤b∧b≠q) (getT t l) ⟨Ae9,ne9,ce9⟩ ⟨Ak9,nk9,ck9⟩):=RdO.mono (fun b hb _=>⟨Nat.le_trans HKW.out.below.size hb,fun e=>by have:=HFQW.out.1;omega⟩) _ hro;have k0:=HK5.out.c0;have k1:=HK5.out.c1;have m0:=HFQ5.out.2 0;have m1:=HFQ5.out.2 1;clear hro hb5;obtain⟨w9,hw9⟩:∃ W,W=(w5.setCell ⟨q,0,none⟩ (.slice Ae9 ne9 ce9)).setCell ⟨q,1,none⟩ (.slice Ak9 nk9 ck9):=⟨_,rfl⟩
   have HT9:Hid (RdO w9 (fun b=>w.heap.size≤b) (getT t l) ⟨Ae9,ne9,ce9⟩ ⟨Ak9,nk9,ck9⟩):=by
    unfold Hid;rw[hw9];refine RdO.mono (fun b hb _=>hb.1) _ (RdO.keep (ok:=fun b=>w.heap.size≤b∧b≠q) (by simp[World.setCell]) (fun b hb hlt=>?_) _ HRO5.out);exact (Below.heap_setCell _ ⟨q,1,none⟩ _ b (fun e=>hb.2 e)).trans (Below.heap_setCell _ ⟨q,0,none⟩ _ b (fun e=>hb.2 e))
   have HB9:Hid (Below w.heap.size w w9):=by unfold Hid;rw[hw9];exact (HK5.out.below.setCell (p:=⟨q,0,none⟩) hwq _).setCell (p:=⟨q,1,none⟩) hwq _
   have j0:w9.cell? ⟨q,0,none⟩=some (.slice Ae9 ne9 ce9):=by rw[hw9];go_simp
   have j1:w9.cell? ⟨q,1,none⟩=some (.slice Ak9 nk9 ck9):=by rw[hw9];go_simp
   have HW9:=Lib.hid hw9;clear hw9;go_wp2_with fail;rw[← HW9.out];refine bodyPost_ret (v:=.agg #[.slice Ae9 ne9 ce9,.slice Ak9 nk9 ck9]) (by simp[results,Tryz.results28,go_sem,j0,j1]) rfl ⟨Ae9,ne9,ce9,Ak9,nk9,ck9,rfl,HT9.out,HB9.out⟩
end Tr
end Go.Proofs.YtjpcechcefhcfaaGreat
namespace Go.Proofs.YtjpcechcefhcfaaGreat
open Go.ChangeShapes Go.WideShapes Go.ChangeAt Go.RowKit
namespace Tr
open Sp Rw
theorem add_path (Y:World) (base:Nat) {A3:Option Addr} {n c3:Nat} {p:List ByteArray} (h:Own Y base 9 1 A3 n c3 (strs p)) (hbs:base≤Y.heap.size) {B m:Nat} {A:Option Addr} {c:Nat} {p2:List ByteArray} (hr:Rd Y B 1 A m c (strs p2)) (hn:n+m≤800000) :
  ∃ A4 c4 w4,(Builtin.append_ #[44,44] 44 #[.slice A3 n c3,.slice A m c]).run Tryz.prog Y = .ok (.slice A4 (n+m) c4) w4∧Own w4 base 9 1 A4 (n+m) c4 (strs (p++p2))∧Below base Y w4:=by
 obtain⟨i0,hi0,hz0,hz1,hz2⟩:=info_of infoS;obtain⟨v',w',r1,r2,r3,_⟩:=run_app (P:=Tryz.prog) Y base 44 44 9 i0 _ 1 16 Tryz.underlying44 hi0 hz0 hz1 hz2 rfl (by omega) h.row hr (by omega) (by omega) hbs
 have e:strs p++strs p2=strs (p++p2):=by simp[strs]
 rw[e]at r2;obtain⟨A',c',rfl,ho⟩:=Own.of_row r2 (strs_one _);exact⟨A',c',w',r1,ho,(Below.refl base Y).grown r3 hbs (fun k hk=>(h.row.lt k hk).1)⟩
theorem depth_path:∀ {d:Nat} {t:T},RightT d t→∀ y∈leaves t,y.1.length≤d
 | d+1,.mk es ks,h,y,hy=>by
  rw[leaves_mk]at hy
  rcases List.mem_append.1 hy with hy | hy
  ·obtain⟨e,_,rfl⟩:=List.mem_map.1 hy
   simp
  ·obtain⟨k,hk,hy⟩:=List.mem_flatMap.1 hy
   obtain⟨z,hz,rfl⟩:=List.mem_map.1 hy;have:=depth_path (h.2.2.2 k hk).2.2 z hz;simp;omega
theorem nodes_wrap2 (t:T):∀ p:List ByteArray,nodes (wrapT t p)=nodes t+p.length
 | []=>rfl
 | k::p=>by
  unfold wrapT;rw[nodes_mk,List.map_cons,List.map_nil,List.sum_cons,List.sum_nil,nodes_wrap2 t p];simp;omega
set_option maxRecDepth 100000 in
set_option maxHeartbeats 4000000 in
theorem refwrap_any (t:T) (Ae Ak:Option Addr) (ne nk ce ck:Nat) (l:List ByteArray) (A:Option Addr) (n c:Nat) (w:World) (hl9:l.length=n) (hn9:n≤1000) (hrl:Rd w w.heap.size 1 A n c (strs l)) (hz:rightB 5 t=true) (hn:nodes t≤1000) (hr:RdT w w.heap.size t ⟨Ae,ne,ce⟩ ⟨Ak,nk,ck⟩) :
  Calls Tryz.prog 18 #[.agg #[.slice Ae ne ce,.slice Ak nk ck],.slice A n c] w (TreeErr (wrapR t l) (wrapE t l) w):=by
 obtain⟨u,hu⟩:∃ u,wrapR t l=u:=⟨_,rfl⟩;obtain⟨x,hx⟩:∃ x,wrapE t l=x:=⟨_,rfl⟩;rw[hu,hx];unfold wrapR at hu;rw[hx]at hu;unfold wrapE at hx;rw[hl9,hz,Bool.not_true,Bool.false_or]at hx;have HT:=Lib.hid (rightB_iff.1 hz);have HX:=Lib.hid hx;have HU:=Lib.hid hu;have HL9:=Lib.hid hl9;have HRL:=Lib.hid hrl;have HN:=Lib.hid hn;have HR:=Lib.hid hr;have hn5:n≤1000:=hn9;clear hx hu hl9 hrl hn hr hz hn9;obtain⟨g,hg⟩:∃ g,g=w.heap.size:=⟨_,rfl⟩;have HK:=Lib.hid (tree_box w Ae Ak ne nk ce ck);rw[← hg]at HK;obtain⟨W0,hW0⟩:∃ W,W=w.alloc (.cells #[.slice Ae ne ce,.slice Ak nk ck] 25):=⟨_,rfl⟩;rw[← hW0]at HK;have HG:=Lib.hid hg;have HW0:=Lib.hid hW0;have k0:=HK.out.c0;have k1:=HK.out.c1;clear hg hW0;obtain⟨q,hq⟩:∃ q,q=W0.heap.size:=⟨_,rfl⟩;obtain⟨W1,hW1⟩:∃ W,W=W0.alloc (.cells #[.slice none 0 0,.slice none 0 0] 25):=⟨_,rfl⟩
 have hb1:Below W0.heap.size W0 W1:=by rw[hW1];exact Dt.box_below _ _ _
 have q0:W1.cell? ⟨q,0,none⟩=some (.slice none 0 0):=by rw[hW1,hq];go_simp
 have q1:W1.cell? ⟨q,1,none⟩=some (.slice none 0 0):=by rw[hW1,hq];go_simp
 have HFQ:Hid (Free q W1):=⟨by rw[hW1,hq];simp,fun j=>by rw[hW1,hq];go_simp⟩;have HFG:Hid (Free g W1):=(show Free g W0 from⟨World.block_lt_of_cell? W0 _ HK.out.c0,fun j=>by rw[HW0.out,HG.out];go_simp⟩).later hb1;have HKB:=Lib.hid (((HK.out.later hb1).cons_of q1).cons_of q0)
 have HQ:Hid (q=g+1):=by unfold Hid;rw[hq,HW0.out,HG.out];simp
 have hgW:g<W0.heap.size:=World.block_lt_of_cell? W0 _ HK.out.c0
 have hgq:g≠q:=by omega
 have hgq2:¬q=g:=by omega
 have hwg:w.heap.size≤g:=by have:=HG.out;omega
 have hwq:w.heap.size≤q:=by omega
 have HW1:=Lib.hid hW1;have HBq:Hid (Below w.heap.size w W1):=HKB.out.below;clear hq hW1 hb1 q0 q1 k0 k1;go_enter Tryz.func18,Tryz.ntmps18;go_wp2_with fail;rw[← HG.out,← HW0.out,← HQ.out,← HW1.out]
 go_loopw [12] (fun i wr=>∃ (k:Nat),k≤n∧i = .int .i64 k∧W1=wr∧Hid (∀ (j:Nat) (h:j<l.length),j<k→keyB l[j]=true)) (fun i _=>n-(intOf i).toNat)
 case atStart=>exact⟨0,by omega,by first | rfl | trivial,by first | rfl | trivial,fun j _ h=>absurd h (by omega)⟩
 case round=>
  obtain⟨k,hk,rfl,rfl,HOKS⟩:=hrel
  by_cases hlt:k<n
  ·have hkl:k<l.length:=by rw[HL9.out];exact hlt
   obtain⟨b,o,rfl,hb,hc⟩:=HRL.out.at_ (by omega);obtain⟨y,hy⟩:∃ y,y=l[k]:=⟨_,rfl⟩;have cy:=(HKB.out.below.cell (p:=⟨b,o+k,none⟩) hb).trans (hc k (.string y) (by rw[hy];simp[strs,hkl]));obtain⟨kb,hkb⟩:∃ z,keyB y=z:=⟨_,rfl⟩;have HKY:=Lib.hid (refkey_any y W1);rw[hkb]at HKY;have HY:=Lib.hid hy;have HKBB:=Lib.hid hkb;clear hc hy hkb
   cases kb with
   | false=>
    have hbd:badB l=true:=by
     cases h:badB l with
     | true=>rfl
     | false=>
      have h1:=badB_iff.1 h l[k] (List.getElem_mem hkl);rw[← HY.out]at h1;exact absurd h1 (keyB_no HKBB.out)
    have hx:=HX.out;rw[if_pos hbd]at hx;subst hx;have hu:=HU.out;rw[if_neg (by simp)]at hu;subst hu;clear hbd;go_wp2_with fail;refine HKY.out.mono ?_;rintro e w2 ⟨rfl,rfl⟩;have z0:=HKB.out.c0;have z1:=HKB.out.c1;have m0:=HFQ.out.2 0;have m1:=HFQ.out.2 1;obtain⟨w9,hw9⟩:∃ W,W=(W1.setCell ⟨q,0,none⟩ (.slice none 0 0)).setCell ⟨q,1,none⟩ (.slice none 0 0):=⟨_,rfl⟩
    have HB9:Hid (Below w.heap.size w w9):=by unfold Hid;rw[hw9];exact (HKB.out.below.setCell (p:=⟨q,0,none⟩) hwq _).setCell (p:=⟨q,1,none⟩) hwq _
    have j0:w9.cell? ⟨q,0,none⟩=some (.slice none 0 0):=by rw[hw9];go_simp
    have j1:w9.cell? ⟨q,1,none⟩=some (.slice none 0 0):=by rw[hw9];go_simp
    have HW9:=Lib.hid hw9;clear hw9;go_wp2_with fail;rw[← HW9.out];refine bodyPost_ret (v:=.tuple #[.agg #[.slice none 0 0,.slice none 0 0],.int .i64 1]) (by simp[results,Tryz.results18,go_sem,j0,j1]) rfl ⟨none,0,0,none,0,0,rfl,RdO.none _ _ _ _ _ _,HB9.out⟩
   | true=>
    have HOK2:Hid (∀ (j:Nat) (h:j<l.length),j<k+1→keyB l[j]=true):=fun j h hj=>by
     by_cases e:j<k
     ·exact HOKS.out j h e
     ·obtain rfl:j=k:=by omega
      rw[← HY.out];exact HKBB.out
    go_wp2_with fail;refine HKY.out.mono ?_;rintro e w2 ⟨rfl,rfl⟩;go_wp2_with fail;go_roundw
    case rel=>exact⟨k+1,by omega,by go_num,by first | rfl | trivial,HOK2.out⟩
    case measure=>simp[intOf];omega
  ·obtain rfl:n=k:=by omega
   have hkeys:∀ y∈l,KeyOk y:=fun y hy=>by
    obtain⟨j,hj,rfl⟩:=List.getElem_of_mem hy;exact keyB_iff.1 (HOKS.out j hj (by rw[← HL9.out];exact hj))
   have HKEYS:=Lib.hid hkeys;have hbd:badB l=false:=badB_iff.2 hkeys;have hx:=HX.out;rw[hbd,if_neg (by simp)]at hx;have HX:=Lib.hid hx;clear hkeys hbd hx;have k2:=HKB.out.c2;have k3:=HKB.out.c3;go_wp2_with fail;refine (leaves_any t Ae Ak ne nk ce ck W1 (by have:=HN.out;omega) (RdT.more HKB.out.below.size _ (RdT.below HR.out HKB.out.below))).mono ?_;rintro e w2 ⟨A2,c2,rfl,hl2,hb2⟩;obtain⟨m2,hm2⟩:∃ z,z=(leaves t).length:=⟨_,rfl⟩;rw[← hm2]at hl2 ⊢;have HL2:=Lib.hid hl2;have HK2:=Lib.hid (HKB.out.later hb2);have HFQ2:=Lib.hid (HFQ.out.later hb2)
   have hm25:m2≤1000:=by rw[hm2];exact Nat.le_trans (leaves_nodes t) HN.out
   have HM2:=Lib.hid hm2;clear hl2 hb2 hm2 k2 k3
   by_cases h5:5<n
   ·have f5:decide ((5:Int)<(n:Int))=true:=decide_eq_true (by omega)
    have hx:=HX.out;rw[if_pos h5]at hx;subst hx;have hu:=HU.out;rw[if_neg (by simp)]at hu;subst hu;have z0:=HK2.out.c0;have z1:=HK2.out.c1;have m0:=HFQ2.out.2 0;have m1:=HFQ2.out.2 1;obtain⟨w9,hw9⟩:∃ W,W=(w2.setCell ⟨q,0,none⟩ (.slice none 0 0)).setCell ⟨q,1,none⟩ (.slice none 0 0):=⟨_,rfl⟩
    have HB9:Hid (Below w.heap.size w w9):=by unfold Hid;rw[hw9];exact (HK2.out.below.setCell (p:=⟨q,0,none⟩) hwq _).setCell (p:=⟨q,1,none⟩) hwq _
    have j0:w9.cell? ⟨q,0,none⟩=some (.slice none 0 0):=by rw[hw9];go_simp
    have j1:w9.cell? ⟨q,1,none⟩=some (.slice none 0 0):=by rw[hw9];go_simp
    have HW9:=Lib.hid hw9;clear hw9;go_wp2_with fail;rw[← HW9.out];refine bodyPost_ret (v:=.tuple #[.agg #[.slice none 0 0,.slice none 0 0],.int .i64 10]) (by simp[results,Tryz.results18,go_sem,j0,j1]) rfl ⟨none,0,0,none,0,0,rfl,RdO.none _ _ _ _ _ _,HB9.out⟩
   ·have f5:decide ((5:Int)<(n:Int))=false:=decide_eq_false (by omega)
    have hx:=HX.out;rw[if_neg h5]at hx
    by_cases he:t.es=[]∧t.ks=[]
    ·rw[if_pos he]at hx
     subst hx;have hu:=HU.out;rw[if_neg (fun h=>h.2 he)]at hu;subst hu
     have ht:t=none_:=by rw[← T.eta t,he.1,he.2];rfl
     have hm0:m2=0:=by rw[HM2.out,ht,leaves_none];rfl
     subst hm0;have HV:Hid (pre l (leaves t)=leaves none_∧RightT 5 none_∧nodes none_≤100000):=⟨by rw[ht,leaves_none];rfl,RightT.none (d:=4),by unfold none_;rw[nodes_mk];simp⟩;clear ht he;have HDL:Hid (∀ y∈leaves t,y.1.length≤5):=fun y hy=>depth_path HT.out y hy;have HBQ:=Lib.hid HK2.out.below;go_wp2_with fail
     go_loopw [8,44] (fun s i wr=>∃ (k:Nat) (Ax:Option Addr) (cx:Nat) (lr:List (SV×E)),k≤0∧i = .int .i64 k∧s = .slice Ax k cx∧Hid (LfRow wr w2.heap.size 76 Ax k cx ((pre l (leaves t)).take k) lr)∧Hid (Below w2.heap.size w2 wr)) (fun _ i _=>0-(intOf i).toNat)
     case atStart=>exact⟨0,none,0,[],by omega,by first | rfl | trivial,by first | rfl | trivial,by unfold Hid;simpa using LfRow.nil w2 w2.heap.size 76,Below.refl _ _⟩
     case round=>
      obtain⟨k,Ax,cx,lr,hk,rfl,rfl,HLR,HBW⟩:=hrel
      by_cases hlt:k<0
      ·exact absurd hlt (by omega)
      ·obtain rfl:k=0:=by omega
       have hlf:=HLR.out.rd;rw[List.take_of_length_le (by unfold pre;rw[List.length_map,← HM2.out];omega),HV.out.1]at hlf;have HKW:=Lib.hid (HK2.out.later HBW.out);have HFQW:=Lib.hid (HFQ2.out.later HBW.out);have HBU:=Lib.hid (build_any 5 (none_) HV.out.2.1 Ax _ cx wr HV.out.2.2 hlf);clear hlf;go_wp2_with fail;refine HBU.out.mono ?_;rintro e w5 ⟨Ae9,ne9,ce9,Ak9,nk9,ck9,rfl,hro,hb5⟩;have HK5:=Lib.hid (HKW.out.later hb5);have HFQ5:=Lib.hid (HFQW.out.later hb5);have HRO5:Hid (RdO w5 (fun b=>w.heap.size≤b∧b≠q) (none_) ⟨Ae9,ne9,ce9⟩ ⟨Ak9,nk9,ck9⟩):=RdO.mono (fun b hb _=>⟨Nat.le_trans HKW.out.below.size hb,fun e=>by have:=HFQW.out.1;omega⟩) _ hro;have k0:=HK5.out.c0;have k1:=HK5.out.c1;have m0:=HFQ5.out.2 0;have m1:=HFQ5.out.2 1;clear hro hb5;obtain⟨w9,hw9⟩:∃ W,W=(w5.setCell ⟨q,0,none⟩ (.slice Ae9 ne9 ce9)).setCell ⟨q,1,none⟩ (.slice Ak9 nk9 ck9):=⟨_,rfl⟩
       have HT9:Hid (RdO w9 (fun b=>w.heap.size≤b) (none_) ⟨Ae9,ne9,ce9⟩ ⟨Ak9,nk9,ck9⟩):=by
        unfold Hid;rw[hw9];refine RdO.mono (fun b hb _=>hb.1) _ (RdO.keep (ok:=fun b=>w.heap.size≤b∧b≠q) (by simp[World.setCell]) (fun b hb hlt=>?_) _ HRO5.out);exact (Below.heap_setCell _ ⟨q,1,none⟩ _ b (fun e=>hb.2 e)).trans (Below.heap_setCell _ ⟨q,0,none⟩ _ b (fun e=>hb.2 e))
       have HB9:Hid (Below w.heap.size w w9):=by unfold Hid;rw[hw9];exact (HK5.out.below.setCell (p:=⟨q,0,none⟩) hwq _).setCell (p:=⟨q,1,none⟩) hwq _
       have j0:w9.cell? ⟨q,0,none⟩=some (.slice Ae9 ne9 ce9):=by rw[hw9];go_simp
       have j1:w9.cell? ⟨q,1,none⟩=some (.slice Ak9 nk9 ck9):=by rw[hw9];go_simp
       have HW9:=Lib.hid hw9;clear hw9;go_wp2_with fail;rw[← HW9.out];refine bodyPost_ret (v:=.tuple #[.agg #[.slice Ae9 ne9 ce9,.slice Ak9 nk9 ck9],.int .i64 0]) (by simp[results,Tryz.results18,go_sem,j0,j1]) rfl ⟨Ae9,ne9,ce9,Ak9,nk9,ck9,rfl,HT9.out,HB9.out⟩
    ·rw[if_neg he]at hx
     have hmp:0<m2:=by rw[HM2.out];exact List.length_pos_iff.2 (leaves_some HT.out he)
     have fm:decide ((0:Int)<(m2:Int))=true:=decide_eq_true (by omega);have hdl:=deep_levels HT.out he;have hlv:=levels_le HT.out;have hdp:=deep_any (leaves t) m2 A2 c2 w2 (by omega) (fun y hy=>by have h1:=(le_deep (leaves t) (1+y.1.length)).2 (.inr ⟨y,hy,Nat.le_refl _⟩);omega) HL2.out;rw[hdl]at hdp;obtain⟨lv,hlv2⟩:∃ z,z=levels t:=⟨_,rfl⟩;rw[← hlv2]at hdp hx hlv;have HDP:=Lib.hid hdp;have HLV:=Lib.hid hlv2
     have fw:IntKind.i64.wrap ((lv:Int)+(n:Int))=((lv+n:Nat):Int):=by rw[IntKind.wrap_i64];omega
     clear hdl hdp hlv2
     by_cases h6:5<lv+n
     ·have f6:decide ((5:Int)<((lv+n:Nat):Int))=true:=decide_eq_true (by omega)
      rw[if_pos h6]at hx;subst hx;have hu:=HU.out;rw[if_neg (by simp)]at hu;subst hu;go_wp2_with fail;refine HDP.out.mono ?_;rintro e w3 ⟨rfl,rfl⟩;have z0:=HK2.out.c0;have z1:=HK2.out.c1;have m0:=HFQ2.out.2 0;have m1:=HFQ2.out.2 1;obtain⟨w9,hw9⟩:∃ W,W=(w2.setCell ⟨q,0,none⟩ (.slice none 0 0)).setCell ⟨q,1,none⟩ (.slice none 0 0):=⟨_,rfl⟩
      have HB9:Hid (Below w.heap.size w w9):=by unfold Hid;rw[hw9];exact (HK2.out.below.setCell (p:=⟨q,0,none⟩) hwq _).setCell (p:=⟨q,1,none⟩) hwq _
      have j0:w9.cell? ⟨q,0,none⟩=some (.slice none 0 0):=by rw[hw9];go_simp
      have j1:w9.cell? ⟨q,1,none⟩=some (.slice none 0 0):=by rw[hw9];go_simp
      have HW9:=Lib.hid hw9;clear hw9;go_wp2_with fail;rw[← HW9.out];refine bodyPost_ret (v:=.tuple #[.agg #[.slice none 0 0,.slice none 0 0],.int .i64 10]) (by simp[results,Tryz.results18,go_sem,j0,j1]) rfl ⟨none,0,0,none,0,0,rfl,RdO.none _ _ _ _ _ _,HB9.out⟩
     ·have f6:decide ((5:Int)<((lv+n:Nat):Int))=false:=decide_eq_false (by omega)
      rw[if_neg h6]at hx;subst hx;have hu:=HU.out;rw[if_pos ⟨rfl,he⟩]at hu;have HV:Hid (pre l (leaves t)=leaves (wrapT t l)∧RightT 5 (wrapT t l)∧nodes (wrapT t l)≤100000):=⟨by rw[leaves_wrap];rfl,(RightT.wrap (right_levels HT.out) he HKEYS.out).le (by rw[← HLV.out,HL9.out];omega),by rw[nodes_wrap2,HL9.out];have:=HN.out;omega⟩;rw[hu]at HV;clear hu;go_wp2_with fail;refine HDP.out.mono ?_;rintro e w3 ⟨rfl,rfl⟩;have HDL:Hid (∀ y∈leaves t,y.1.length≤5):=fun y hy=>depth_path HT.out y hy;have HBQ:=Lib.hid HK2.out.below;go_wp2_with fail
      go_loopw [8,44] (fun s i wr=>∃ (k:Nat) (Ax:Option Addr) (cx:Nat) (lr:List (SV×E)),k≤m2∧i = .int .i64 k∧s = .slice Ax k cx∧Hid (LfRow wr w2.heap.size 76 Ax k cx ((pre l (leaves t)).take k) lr)∧Hid (Below w2.heap.size w2 wr)) (fun _ i _=>m2-(intOf i).toNat)
      case atStart=>exact⟨0,none,0,[],by omega,by first | rfl | trivial,by first | rfl | trivial,by unfold Hid;simpa using LfRow.nil w2 w2.heap.size 76,Below.refl _ _⟩
      case round=>
       obtain⟨k,Ax,cx,lr,hk,rfl,rfl,HLR,HBW⟩:=hrel
       by_cases hlt:k<m2
       ·have hkl:k<(leaves t).length:=by rw[← HM2.out];exact hlt
        obtain⟨b,o,rfl,hb,hc⟩:=LfRd.at_ HL2.out (by omega);obtain⟨⟨Ap,np,cp⟩,c0,c1,c2',c3',c4',hpl,hpx⟩:=hc k hkl;dsimp only at c0 hpl hpx;have c0:=(HBW.out.cell (p:=⟨b,o+k*5,none⟩) hb).trans c0;have c1:=(HBW.out.cell (p:=⟨b,o+k*5+1,none⟩) hb).trans c1;have c2':=(HBW.out.cell (p:=⟨b,o+k*5+2,none⟩) hb).trans c2';have c3':=(HBW.out.cell (p:=⟨b,o+k*5+3,none⟩) hb).trans c3';have c4':=(HBW.out.cell (p:=⟨b,o+k*5+4,none⟩) hb).trans c4'
        have hnp:np≤100000:=by rw[← hpl];have h1:=HDL.out _ (List.getElem_mem hkl);omega
        have htk:(pre l (leaves t)).take (k+1)=(pre l (leaves t)).take k++[(l++((leaves t)[k]).1,((leaves t)[k]).2)]:=by
         have h1:k<(pre l (leaves t)).length:=by unfold pre;rw[List.length_map];exact hkl
         rw[List.take_succ_eq_append_getElem h1]
         have h2:(pre l (leaves t))[k]=(l++((leaves t)[k]).1,((leaves t)[k]).2):=by unfold pre;exact List.getElem_map ..
         rw[h2]
        obtain⟨lf,hlf⟩:∃ z,z=(leaves t)[k]:=⟨_,rfl⟩;rw[← hlf]at c1 c2' c3' c4' hpl hpx htk;obtain⟨pa,ea,en,et,ev⟩:=lf;dsimp only at c1 c2' c3' c4' hpl hpx htk;have HTK:=Lib.hid htk;have hdz:wr.drew.heap.size=wr.heap.size:=rfl;have hbE:Below wr.heap.size wr (wr.drew.alloc (.cells #[] 9)):=((Below.refl _ wr).drew).alloc (Nat.le_refl _) _;have hbw0:=HBQ.out.trans (HBW.out.mono HBQ.out.size);have hpd:Rd wr wr.heap.size 1 A n c (strs l):=(HRL.out.below hbw0).more hbw0.size;obtain⟨A3,c3,w3,r3,ho3,hb3,_⟩:=mk_path (wr.drew.alloc (.cells #[] 9)) wr.heap.size wr.heap.size (by have h:=heap_alloc_new wr.drew (.cells #[] 9);simpa [hdz] using h) (by omega) (by first | (simp[hdz];done) | (simp[hdz];omega)) ((hpd.below hbE).more hbE.size) (by omega);have hbw3:Below wr.heap.size wr w3:=hbE.trans hb3;have hbx3:Below w2.heap.size w2 w3:=HBW.out.trans (hbw3.mono HBW.out.size)
        obtain⟨A4,c4,w4,r4,ho4,hb4⟩:=add_path w3 wr.heap.size ho3 hbw3.size ((hpx.rd.below hbx3).more hbx3.size) (by omega);have hbw4:Below wr.heap.size wr w4:=hbw3.trans hb4
        have hlen:(l++pa).length=n+np:=by rw[List.length_append,HL9.out,hpl]
        have hrx:RX w4 (fun b=>(Value.slice Ax k cx).ownBlock≠some b) 1 A4 (n+np) c4 (strs (l++pa)):=by
         refine⟨ho4.rd.len,ho4.rd.cap,strs_one _,fun hn=>?_⟩;obtain⟨q',eq,q1,q2,_,q4⟩:=Sp.Own.place ho4 hn;refine⟨q',0,eq,fun e=>?_,q2,fun j u hu=>by rw[Nat.zero_add];exact q4 j u hu⟩;have:=(HLR.out.own.row.lt q' e).2;omega
        obtain⟨A6,c6,w6,r6,HLR6,hb6,_⟩:=LfRow.push (e:=⟨ea,en,et,ev⟩) (s:=⟨A4,n+np,c4⟩) (HLR.out.later hbw4) (Nat.le_trans HBW.out.size hbw4.size) hlen hrx (by omega);dsimp only at r6
        have HLR7:Hid (LfRow w6 w2.heap.size 76 A6 (k+1) c6 ((pre l (leaves t)).take (k+1)) (lr++[(⟨A4,n+np,c4⟩,⟨ea,en,et,ev⟩)])):=by unfold Hid;rw[HTK.out];exact HLR6
        have hbx4:Below w2.heap.size w2 w4:=HBW.out.trans (hbw4.mono HBW.out.size);have HB7:Hid (Below w2.heap.size w2 w6):=hbx4.trans hb6;have hbl:b<wr.heap.size:=World.block_lt_of_cell? wr _ c0;have HS3:=Lib.hid (And.intro ((hbw3.cell (p:=⟨b,o+k*5,none⟩) hbl).trans c0) (And.intro ((hbw3.cell (p:=⟨b,o+k*5+1,none⟩) hbl).trans c1) (And.intro ((hbw3.cell (p:=⟨b,o+k*5+2,none⟩) hbl).trans c2') (And.intro ((hbw3.cell (p:=⟨b,o+k*5+3,none⟩) hbl).trans c3') ((hbw3.cell (p:=⟨b,o+k*5+4,none⟩) hbl).trans c4')))));have e0:=(hbw4.cell (p:=⟨b,o+k*5,none⟩) hbl).trans c0;have e1:=(hbw4.cell (p:=⟨b,o+k*5+1,none⟩) hbl).trans c1;have e2:=(hbw4.cell (p:=⟨b,o+k*5+2,none⟩) hbl).trans c2';have e3:=(hbw4.cell (p:=⟨b,o+k*5+3,none⟩) hbl).trans c3';have e4:=(hbw4.cell (p:=⟨b,o+k*5+4,none⟩) hbl).trans c4'
        have hbl4:b<w4.heap.size:=Nat.lt_of_lt_of_le hbl hbw4.size;have HS4:=Lib.hid (And.intro e0 (And.intro e1 (And.intro e2 (And.intro e3 e4))));have HS6:=Lib.hid (And.intro ((hb6.cell (p:=⟨b,o+k*5,none⟩) hb).trans e0) (And.intro ((hb6.cell (p:=⟨b,o+k*5+1,none⟩) hb).trans e1) (And.intro ((hb6.cell (p:=⟨b,o+k*5+2,none⟩) hb).trans e2) (And.intro ((hb6.cell (p:=⟨b,o+k*5+3,none⟩) hb).trans e3) ((hb6.cell (p:=⟨b,o+k*5+4,none⟩) hb).trans e4)))));have HX3:=Lib.hid r3;have HX4:=Lib.hid r4;have HX6:=Lib.hid r6;clear hc hlf hpl hpx htk hdz hbE hbw0 hpd r3 ho3 hb3 hbw3 hbx3 r4 ho4 hb4 hbw4 hlen hrx r6 HLR6 hb6 hbx4 e0 e1 e2 e3 e4;go_wp2_with fail;refine wp_region_held_drew (S:=fun W=>W.cell? ⟨b,o+k*5,none⟩=some (.slice Ap np cp)∧W.cell? ⟨b,o+k*5+1,none⟩=some (.int .i64 ea)∧W.cell? ⟨b,o+k*5+2,none⟩=some (.int .i64 en)∧W.cell? ⟨b,o+k*5+3,none⟩=some (.string et)∧W.cell? ⟨b,o+k*5+4,none⟩=some (.int .i64 ev)) (by kernel_rfl) (by go_keep) (fun hHeld=>?_)
        refine wpAnyH_take (i:=0) (oi:=⟨some 47,_,_,_,_,_⟩) (v:=?_) rfl (by kernel_rfl) (by kernel_rfl) (by kernel_rfl) (fun _ _ _ h=>h) (Or.inl ⟨by kernel_rfl,?_⟩) (by assumption) ?_;rotate_left
        (intro wz hSw;(try dsimp only at hSw);go_simp;try with_reducible rfl)
        try simp only[Act.put,List.setIfInBounds_toArray,List.set_cons_zero,List.set_cons_succ]
        refine wpAnyH_take (i:=2) (oi:=⟨some 49,_,_,_,_,_⟩) (v:=?_) rfl (by kernel_rfl) (by kernel_rfl) (by kernel_rfl) (fun _ _ _ h=>h) (Or.inl ⟨by kernel_rfl,?_⟩) (by assumption) ?_;rotate_left
        (intro wz hSw;(try dsimp only at hSw);go_simp;try with_reducible rfl)
        try simp only[Act.put,List.setIfInBounds_toArray,List.set_cons_zero,List.set_cons_succ]
        refine wpAnyH_take (i:=4) (oi:=⟨some 51,_,_,_,_,_⟩) (v:=?_) rfl (by kernel_rfl) (by kernel_rfl) (by kernel_rfl) (fun _ _ _ h=>h) (Or.inl ⟨by kernel_rfl,?_⟩) (by assumption) ?_;rotate_left
        (intro wz hSw;(try dsimp only at hSw);go_simp;try with_reducible rfl)
        try simp only[Act.put,List.setIfInBounds_toArray,List.set_cons_zero,List.set_cons_succ]
        refine wpAnyH_take (i:=5) (oi:=⟨some 52,_,_,_,_,_⟩) (v:=?_) rfl (by kernel_rfl) (by kernel_rfl) (by kernel_rfl) (fun _ _ _ h=>h) (Or.inl ⟨by kernel_rfl,?_⟩) (by assumption) ?_;rotate_left
        (intro wz hSw;(try dsimp only at hSw);go_simp;try with_reducible rfl)
        try simp only[Act.put,List.setIfInBounds_toArray,List.set_cons_zero,List.set_cons_succ]
        refine wpAnyH_take (i:=6) (oi:=⟨some 53,_,_,_,_,_⟩) (v:=?_) rfl (by kernel_rfl) (by kernel_rfl) (by kernel_rfl) (fun _ _ _ h=>h) (Or.inl ⟨by kernel_rfl,?_⟩) (by assumption) ?_;rotate_left
        (intro wz hSw;(try dsimp only at hSw);go_simp;try with_reducible rfl)
        try simp only[Act.put,List.setIfInBounds_toArray,List.set_cons_zero,List.set_cons_succ]
        refine wpAnyH_take (i:=7) (oi:=⟨some 54,_,_,_,_,_⟩) (v:=?_) rfl (by kernel_rfl) (by kernel_rfl) (by kernel_rfl) (fun _ _ _ h=>h) (Or.inl ⟨by kernel_rfl,?_⟩) (by assumption) ?_;rotate_left
        (intro wz hSw;(try dsimp only at hSw);go_simp;try with_reducible rfl)
        try simp only[Act.put,List.setIfInBounds_toArray,List.set_cons_zero,List.set_cons_succ]
        refine wpAnyH_take (i:=8) (oi:=⟨some 55,_,_,_,_,_⟩) (v:=?_) rfl (by kernel_rfl) (by kernel_rfl) (by kernel_rfl) (fun _ _ _ h=>h) (Or.inl ⟨by kernel_rfl,?_⟩) (by assumption) ?_;rotate_left
        (intro wz hSw;(try dsimp only at hSw);go_simp;try with_reducible rfl)
        try simp only[Act.put,List.setIfInBounds_toArray,List.set_cons_zero,List.set_cons_succ]
        refine wpAnyH_take (i:=10) (oi:=⟨some 57,_,_,_,_,_⟩) (v:=?_) rfl (by kernel_rfl) (by kernel_rfl) (by kernel_rfl) (fun _ _ _ h=>h) (Or.inl ⟨by kernel_rfl,?_⟩) (by assumption) ?_;rotate_left
        (intro wz hSw;(try dsimp only at hSw);go_simp;try with_reducible rfl)
        try simp only[Act.put,List.setIfInBounds_toArray,List.set_cons_zero,List.set_cons_succ]
        refine wpAnyH_take (i:=11) (oi:=⟨some 58,_,_,_,_,_⟩) (v:=?_) rfl (by kernel_rfl) (by kernel_rfl) (by kernel_rfl) (fun _ _ _ h=>h) (Or.inl ⟨by kernel_rfl,?_⟩) (by assumption) ?_;rotate_left
        (intro wz hSw;(try dsimp only at hSw);go_simp;try with_reducible rfl)
        try simp only[Act.put,List.setIfInBounds_toArray,List.set_cons_zero,List.set_cons_succ]
        refine wpAnyH_take (i:=12) (oi:=⟨some 59,_,_,_,_,_⟩) (v:=?_) rfl (by kernel_rfl) (by kernel_rfl) (by kernel_rfl) (fun _ _ _ h=>h) (Or.inl ⟨by kernel_rfl,?_⟩) (by assumption) ?_;rotate_left
        (intro wz hSw;(try dsimp only at hSw);go_simp;try with_reducible rfl)
        try simp only[Act.put,List.setIfInBounds_toArray,List.set_cons_zero,List.set_cons_succ]
        refine wpAnyH_take (i:=13) (oi:=⟨some 60,_,_,_,_,_⟩) (v:=?_) rfl (by kernel_rfl) (by kernel_rfl) (by kernel_rfl) (fun _ _ _ h=>h) (Or.inl ⟨by kernel_rfl,?_⟩) (by assumption) ?_;rotate_left
        (intro wz hSw;(try dsimp only at hSw);go_simp;try with_reducible rfl)
        try simp only[Act.put,List.setIfInBounds_toArray,List.set_cons_zero,List.set_cons_succ]
        refine wpAnyH_take (i:=14) (oi:=⟨some 61,_,_,_,_,_⟩) (v:=?_) rfl (by kernel_rfl) (by kernel_rfl) (by kernel_rfl) (fun _ _ _ h=>h) (Or.inl ⟨by kernel_rfl,?_⟩) (by assumption) ?_;rotate_left
        (intro wz hSw;(try dsimp only at hSw);go_simp;try with_reducible rfl)
        try simp only[Act.put,List.setIfInBounds_toArray,List.set_cons_zero,List.set_cons_succ]
        refine Tc 1 (fun K hK=>?_);go_simp;refine Th hK ?_ (fun hHeld2=>?_)
        ·(try dsimp only);go_keep
        clear hK K hHeld;have hHeld:=hHeld2;clear hHeld2;refine Tc 3 (fun K hK=>?_);refine upon_append _ _ _ rfl rfl rfl HX3.out ?_;clear hHeld;refine Th hK ?_ (fun hHeld=>?_)
        ·exact HS3.out
        clear hK K;refine Tc 9 (fun K hK=>?_);refine upon_append _ _ _ rfl rfl rfl HX4.out ?_;clear hHeld;refine Th hK ?_ (fun hHeld=>?_)
        ·exact HS4.out
        clear hK K;refine wpAnyH_take (i:=15) (oi:=⟨some 62,_,_,_,_,_⟩) (v:=?_) rfl (by kernel_rfl) (by kernel_rfl) (by kernel_rfl) (fun _ _ _ h=>h) (Or.inl ⟨by kernel_rfl,?_⟩) (by assumption) ?_;rotate_left
        (intro wz hSw;(try dsimp only at hSw);go_simp;try with_reducible rfl)
        try simp only[Act.put,List.setIfInBounds_toArray,List.set_cons_zero,List.set_cons_succ]
        refine Tc 16 (fun K hK=>?_);go_simp;refine Th hK ?_ (fun hHeld2=>?_)
        ·(try dsimp only);go_keep
        clear hK K hHeld;have hHeld:=hHeld2;clear hHeld2;refine Tc 17 (fun K hK=>?_);refine upon_append _ _ _ rfl rfl rfl HX6.out ?_;clear hHeld;refine Th hK ?_ (fun hHeld=>?_)
        ·exact HS6.out
        clear hK K;refine wpAnyH_take (i:=18) (oi:=⟨some 8,_,_,_,_,_⟩) (v:=?_) rfl (by kernel_rfl) (by kernel_rfl) (by kernel_rfl) (fun _ _ _ h=>h) (Or.inl ⟨by kernel_rfl,?_⟩) (by assumption) ?_;rotate_left
        (intro wz hSw;(try dsimp only at hSw);go_simp;try with_reducible rfl)
        try simp only[Act.put,List.setIfInBounds_toArray,List.set_cons_zero,List.set_cons_succ]
        refine wpAnyH_done (by kernel_rfl) ?_ _;clear hHeld;go_wp2_with fail;go_roundw
        case rel=>exact⟨k+1,A6,c6,_,by omega,by go_num,rfl,HLR7.out,HB7.out⟩
        case measure=>simp[intOf];omega
       ·obtain rfl:k=m2:=by omega
        have hlf:=HLR.out.rd;rw[List.take_of_length_le (by unfold pre;rw[List.length_map,← HM2.out];omega),HV.out.1]at hlf;have HKW:=Lib.hid (HK2.out.later HBW.out);have HFQW:=Lib.hid (HFQ2.out.later HBW.out);have HBU:=Lib.hid (build_any 5 (u) HV.out.2.1 Ax _ cx wr HV.out.2.2 hlf);clear hlf;go_wp2_with fail;refine HBU.out.mono ?_;rintro e w5 ⟨Ae9,ne9,ce9,Ak9,nk9,ck9,rfl,hro,hb5⟩;have HK5:=Lib.hid (HKW.out.later hb5);have HFQ5:=Lib.hid (HFQW.out.later hb5);have HRO5:Hid (RdO w5 (fun b=>w.heap.size≤b∧b≠q) (u) ⟨Ae9,ne9,ce9⟩ ⟨Ak9,nk9,ck9⟩):=RdO.mono (fun b hb _=>⟨Nat.le_trans HKW.out.below.size hb,fun e=>by have:=HFQW.out.1;omega⟩) _ hro;have k0:=HK5.out.c0;have k1:=HK5.out.c1;have m0:=HFQ5.out.2 0;have m1:=HFQ5.out.2 1;clear hro hb5;obtain⟨w9,hw9⟩:∃ W,W=(w5.setCell ⟨q,0,none⟩ (.slice Ae9 ne9 ce9)).setCell ⟨q,1,none⟩ (.slice Ak9 nk9 ck9):=⟨_,rfl⟩
        have HT9:Hid (RdO w9 (fun b=>w.heap.size≤b) (u) ⟨Ae9,ne9,ce9⟩ ⟨Ak9,nk9,ck9⟩):=by
         unfold Hid;rw[hw9];refine RdO.mono (fun b hb _=>hb.1) _ (RdO.keep (ok:=fun b=>w.heap.size≤b∧b≠q) (by simp[World.setCell]) (fun b hb hlt=>?_) _ HRO5.out);exact (Below.heap_setCell _ ⟨q,1,none⟩ _ b (fun e=>hb.2 e)).trans (Below.heap_setCell _ ⟨q,0,none⟩ _ b (fun e=>hb.2 e))
        have HB9:Hid (Below w.heap.size w w9):=by unfold Hid;rw[hw9];exact (HK5.out.below.setCell (p:=⟨q,0,none⟩) hwq _).setCell (p:=⟨q,1,none⟩) hwq _
        have j0:w9.cell? ⟨q,0,none⟩=some (.slice Ae9 ne9 ce9):=by rw[hw9];go_simp
        have j1:w9.cell? ⟨q,1,none⟩=some (.slice Ak9 nk9 ck9):=by rw[hw9];go_simp
        have HW9:=Lib.hid hw9;clear hw9;go_wp2_with fail;rw[← HW9.out];refine bodyPost_ret (v:=.tuple #[.agg #[.slice Ae9 ne9 ce9,.slice Ak9 nk9 ck9],.int .i64 0]) (by simp[results,Tryz.results18,go_sem,j0,j1]) rfl ⟨Ae9,ne9,ce9,Ak9,nk9,ck9,rfl,HT9.out,HB9.out⟩
end Tr
end Go.Proofs.YtjpcechcefhcfaaGreat
