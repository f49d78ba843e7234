/- Maps: room, Reset, Keys: the program's. -/
import Derived.Test.YtjpcechcefhcfaaGreatG160
import Derived.Test.YtjpcechcefhcfaaGreatFlag2
import Derived.Test.YtjpcechcefhcfaaGreatG20
import Derived.Test.YtjpcechcefhcfaaGreatG10
import Derived.Test.YtjpcechcefhcfaaGreatTreeRight
set_option maxRecDepth 100000
set_option maxHeartbeats 4000000
namespace Go.Proofs.YtjpcechcefhcfaaGreat
open Go.ChangeShapes Go.WideShapes Go.ChangeAt Go.RowKit
namespace Cs
open Tr Cx Sp Rw Classical
theorem boxTT (w:World) (Ae Ak Be Bk:Option Addr) (ne nk ce ck me mk de dk:Nat):∃ (W:World) (p q:Nat),Hid (W=((w.alloc (.cells #[.slice Ae ne ce,.slice Ak nk ck] 25)).alloc (.cells #[.slice Be me de,.slice Bk mk dk] 25)))∧Hid (p=w.heap.size)∧Hid (q=p+1)∧Hid (Kept [(⟨p,0,none⟩,.slice Ae ne ce),(⟨p,1,none⟩,.slice Ak nk ck),(⟨q,0,none⟩,.slice Be me de),(⟨q,1,none⟩,.slice Bk mk dk)] w W):=by
 refine⟨_,_,_,rfl,rfl,rfl,?_⟩;have h0:=Kept.nil_of (show Below w.heap.size w (((w.alloc (.cells #[.slice Ae ne ce,.slice Ak nk ck] 25)).alloc (.cells #[.slice Be me de,.slice Bk mk dk] 25))) from ((Below.refl _ _).alloc (Nat.le_refl _) _).alloc (by simp) _)
 refine ((((h0).cons_of ?_).cons_of ?_).cons_of ?_).cons_of ?_ <;> go_simp
theorem mroom_any (t:T) (Ae Ak:Option Addr) (ne nk ce ck:Nat) (x:T) (Be Bk:Option Addr) (me mk de dk:Nat) (key:ByteArray) (w:World) (z:Bool) (hz:mroomB t key x=z) (ht:RightT 5 t) (hl:LenT reachBytes t) (hn:nodes t≤1000) (hr:RdT w w.heap.size t ⟨Ae,ne,ce⟩ ⟨Ak,nk,ck⟩) (hr2:RdT w w.heap.size x ⟨Be,me,de⟩ ⟨Bk,mk,dk⟩) :
  Calls Tryz.prog 39 #[.agg #[.slice Ae ne ce,.slice Ak nk ck],.string key,.agg #[.slice Be me de,.slice Bk mk dk]] w fun e w'=>e = .returned (.bool z)∧Below w.heap.size w w':=by
 obtain⟨W,p,q,HW,HP,HQ,HKc⟩:=boxTT w Ae Ak Be Bk ne nk ce ck me mk de dk;have R:=Lib.hid (RdT.later hr HKc.out.below);obtain⟨y,hy⟩:∃ y,decide (me=0∧mk=0)=y:=⟨_,rfl⟩;have HY:=Lib.hid hy
 have HZ:Hid ((y||roomB t key)=z):=by
  unfold Hid;rw[← hy,← hz];unfold mroomB;rw[decide_eq_decide.2 (kid_none hr2)]
 have HT:=Lib.hid ht;have N:=Lib.hid (And.intro hl hn)
 have HNK:Hid (t.ks.length=nk):=by
  have h:=hr;rw[← T.eta t]at h;exact (rd_lens h).2
 clear hz ht hl hn hr hr2 hy;obtain⟨c0,c1,c2,c3,-⟩:=HKc.out.cj;go_enter Tryz.func39,Tryz.ntmps39;go_wp2_with fail;rw[← HW.out,← HP.out]
 try rw[← HQ.out]
 refine (empty_any Be Bk me mk de dk W).mono ?_;rw[HY.out];rintro e v1 ⟨rfl,hb9⟩;have HKc:=Lib.hid (HKc.out.later hb9);have R:=Lib.hid (RdT.later R.out hb9);clear hb9;clear c0 c1 c2 c3
 cases y with
 | true=>
  obtain rfl:z=true:=by rw[← HZ.out];rfl
  go_wp2_with fail;go_ret;exact⟨by first | rfl | simp,HKc.out.below⟩
 | false=>
  have HZR:Hid (roomB t key=z):=HZ.out
  by_cases h24:nk<24
  ·have f24:decide ((nk:Int)<24)=true:=decide_eq_true (by omega)
   obtain rfl:z=true:=by
    rw[← HZR.out];unfold roomB;rw[decide_eq_true (p:=t.ks.length<24) (by rw[HNK.out];exact h24)];rfl
   obtain⟨c0,c1,c2,c3,-⟩:=HKc.out.cj;go_wp2_with fail;go_ret;exact⟨by first | rfl | simp,HKc.out.below⟩
  ·have f24:decide ((nk:Int)<24)=false:=decide_eq_false (by omega)
   have HZK:Hid (decide (key∈keysOf t.ks)=z):=by
    unfold Hid;rw[← HZR.out];unfold roomB;rw[decide_eq_false (p:=t.ks.length<24) (by rw[HNK.out];exact h24),Bool.false_or]
   obtain⟨c0,c1,c2,c3,-⟩:=HKc.out.cj;obtain⟨gs,hgs⟩:∃ g,g=v1.heap.size:=⟨_,rfl⟩;obtain⟨v2,hv2⟩:∃ W,W=v1.alloc (.cells #[.string key] 9):=⟨_,rfl⟩
   have hb9:Below v1.heap.size v1 v2:=by rw[hv2];exact Dt.box_below _ _ _
   have HKc:=Lib.hid (HKc.out.later hb9);have R:=Lib.hid (RdT.later R.out hb9);clear hb9
   have RS:Hid (Rd v2 v2.heap.size 1 (some ⟨gs,0,none⟩) 1 1 (strs [key])):=by unfold Hid;rw[hv2,hgs];exact rd_one1 _ _
   have Hgs:=Lib.hid hgs;have Hv2:=Lib.hid hv2;clear hgs hv2;go_wp2_with fail;rw[← Hgs.out,← Hv2.out];refine (get_any t Ae Ak ne nk ce ck v2 [key] (some ⟨gs,0,none⟩) 1 1 rfl (by omega) RS.out N.out.1 (by have:=N.out.2;omega) R.out).mono ?_;rintro e v3 ⟨Ge,gn,gc,Gk,gm,gd,rfl,ho,hb9⟩
   have HG:RdT v3 v3.heap.size (kidAt t.ks key) ⟨Ge,gn,gc⟩ ⟨Gk,gm,gd⟩:=by
    have h:=ho.rd;rw[if_pos (Tr.rightB_iff.2 HT.out)]at h;exact h
   have HEQ:(gn=0∧gm=0)↔¬key∈keysOf t.ks:=by
    rw[kid_none HG,kid_some HT.out];exact not_not.symm
   have HEM:Hid (decide (gn=0∧gm=0) = !z):=by
    unfold Hid;rw[← HZK.out,← decide_not];exact decide_eq_decide.2 HEQ
   clear ho HG HEQ;have HKc:=Lib.hid (HKc.out.later hb9);have R:=Lib.hid (RdT.later R.out hb9);have RS:=Lib.hid (RS.out.later hb9);clear hb9;clear c0 c1 c2 c3;obtain⟨c0,c1,c2,c3,-⟩:=HKc.out.cj;go_wp2_with fail;refine (empty_any Ge Gk gn gm gc gd v3).mono ?_;rw[HEM.out];rintro e v4 ⟨rfl,hb9⟩;have HKc:=Lib.hid (HKc.out.later hb9);have R:=Lib.hid (RdT.later R.out hb9);have RS:=Lib.hid (RS.out.later hb9);clear hb9;clear c0 c1 c2 c3
   cases z
   ·go_wp2_with fail
    go_ret;exact⟨by first | rfl | simp,HKc.out.below⟩
   ·go_wp2_with fail
    go_ret;exact⟨by first | rfl | simp,HKc.out.below⟩
theorem mreset_any (t:T) (Ae Ak:Option Addr) (ne nk ce ck:Nat) (a n:Int) (w:World) (hl:LenT reachBytes t) (hn:nodes t≤1000) (hr:RdT w w.heap.size t ⟨Ae,ne,ce⟩ ⟨Ak,nk,ck⟩) :
  Calls Tryz.prog 19 #[.agg #[.slice Ae ne ce,.slice Ak nk ck],.agg #[.int .i64 a,.int .i64 n]] w (DeltaIs w.heap.size (checkB t a n) 1 none_ (dl t) a n (4*nodes t+4) w):=by
 obtain⟨ok,hok⟩:∃ x,checkB t a n=x:=⟨_,rfl⟩;rw[hok];obtain⟨W,p,q,r,HW,HP,HQ,HR0,HKc,HKR,HFR⟩:=boxTDC w Ae Ak ne nk ce ck a n
 have hwr:w.heap.size≤r:=by have:=HP.out;have:=HR0.out;omega
 have R:=Lib.hid (RdT.later hr HKc.out.below);have HD:=Lib.hid (disable_any t Ae Ak ne nk ce ck a n W hl hn R.out);rw[hok]at HD;have HRW:Hid (r<W.heap.size∧w.heap.size≤W.heap.size):=⟨HFR.out.1,HKc.out.below.size⟩;clear hl hn hr hok;obtain⟨c0,c1,c2,c3,-⟩:=HKc.out.cj;go_enter Tryz.func19,Tryz.ntmps19;go_wp2_with fail;rw[← HP.out,← HW.out]
 try rw[← HR0.out]
 try rw[← HQ.out]
 refine HD.out.mono ?_;rintro e v1 ⟨k,z,De,dn,dc,Dk,dm,dd,Rc,rq,re,rfl,how,hz,hb9⟩;have HKc:=Lib.hid (HKc.out.later hb9);have HKR:=Lib.hid (HKR.out.later hb9);have HFR:=Lib.hid (HFR.out.later hb9);have HOW:=Lib.hid how.out;have HZ:=Lib.hid hz.out;clear hb9 how hz HD c0 c1 c2 c3;obtain⟨z0,z1,z2,-⟩:=HKR.out.cj;have m0:=HFR.out.2 0;have m1:=HFR.out.2 1;have m2:=HFR.out.2 2;obtain⟨W9,hW9⟩:∃ W,W=((v1.setCell ⟨r,0,none⟩ (.slice De dn dc)).setCell ⟨r,1,none⟩ (.slice Dk dm dd)).setCell ⟨r,2,none⟩ (.slice Rc rq re):=⟨_,rfl⟩
 have HB9:Hid (Below w.heap.size w W9):=by
  unfold Hid;rw[hW9];exact ((HKc.out.below.setCell (p:=⟨r,0,none⟩) hwr _).setCell (p:=⟨r,1,none⟩) hwr _).setCell (p:=⟨r,2,none⟩) hwr _
 have HO9:Hid (OwC W9 w.heap.size k De dn dc Dk dm dd Rc rq re):=by
  unfold Hid;rw[hW9];exact (HOW.out.set3 HRW.out.1 _ _ _).mono HRW.out.2
 have l0:W9.cell? ⟨r,0,none⟩=some (.slice De dn dc):=by rw[hW9];go_simp
 have l1:W9.cell? ⟨r,1,none⟩=some (.slice Dk dm dd):=by rw[hW9];go_simp
 have l2:W9.cell? ⟨r,2,none⟩=some (.slice Rc rq re):=by rw[hW9];go_simp
 have HW9:=Lib.hid hW9;clear hW9;go_wp2_with fail;rw[← HW9.out];refine bodyPost_ret (v:=.tuple #[.agg #[.slice De dn dc,.slice Dk dm dd,.slice Rc rq re],.int .i64 z]) (by simp[results,Tryz.results19,go_sem,l0,l1,l2]) rfl ⟨k,z,De,dn,dc,Dk,dm,dd,Rc,rq,re,rfl,HO9.out,HZ.out,HB9.out⟩
theorem mkeys_any (t:T) (Ae Ak:Option Addr) (ne nk ce ck:Nat) (w:World) (y:Bool) (hy:Tr.rightB 5 t=y) (hl:LenT reachBytes t) (hn:nodes t≤1000) (hr:RdT w w.heap.size t ⟨Ae,ne,ce⟩ ⟨Ak,nk,ck⟩) :
  Calls Tryz.prog 25 #[.agg #[.slice Ae ne ce,.slice Ak nk ck]] w fun e w'=>∃ (A':Option Addr) (q' c':Nat),e = .returned (.slice A' q' c')∧Hid (q'=if y=true then nk else 0)∧Hid (Rd w' w'.heap.size 1 A' q' c' (strs (if y=true then keysOf t.ks else [])))∧Below w.heap.size w w':=by
 cases t with
 | mk es ks=>
  obtain⟨hle,hlk⟩:=rd_lens hr;have HR:=Lib.hid hr;have HLK:=Lib.hid hlk;have HL:=Lib.hid hl;have HY:=Lib.hid hy
  have hnk:nk≤1000:=by have:=nodes_es es ks;omega
  clear hle hlk hr hn hl hy;obtain⟨g,hg⟩:∃ g,g=w.heap.size:=⟨_,rfl⟩;have HK:=Lib.hid (tree_box w Ae Ak ne nk ce ck);rw[← hg]at HK;obtain⟨W0,hW0⟩:∃ W,W=w.alloc (.cells #[.slice Ae ne ce,.slice Ak nk ck] 25):=⟨_,rfl⟩;rw[← hW0]at HK;have HG:=Lib.hid hg;have HW0:=Lib.hid hW0;have k0:=HK.out.c0;have k1:=HK.out.c1;clear hg hW0;have HRT:=Lib.hid (RdT.more HK.out.below.size _ (RdT.below HR.out HK.out.below));go_enter Tryz.func25,Tryz.ntmps25;go_wp2_with fail;rw[← HG.out,← HW0.out];refine (rightT_any (.mk es ks) Ae Ak ne nk ce ck W0 HL.out HRT.out).mono ?_;rw[HY.out];rintro e W1 ⟨rfl,hb9⟩;have HK:=Lib.hid (HK.out.later hb9);clear hb9 HRT k0 k1;have k0:=HK.out.c0;have k1:=HK.out.c1
  cases y with
  | false=>
   go_wp2_with fail;go_ret;exact⟨none,0,0,rfl,rfl,Rd.nil _,HK.out.below⟩
  | true=>
   go_wp2_with fail
   go_loopw [3,12] (fun v i wr=>∃ (k:Nat) (Ax:Option Addr) (cx:Nat),k≤nk∧i = .int .i64 k∧v = .slice Ax k cx∧Hid (Own wr W1.heap.size 9 1 Ax k cx (strs (keysOf (ks.take k))))∧Hid (Below W1.heap.size W1 wr)) (fun _ i _=>nk-(intOf i).toNat)
   case atStart=>exact⟨0,none,0,by omega,rfl,rfl,⟨World.ownsRow_nil _ _ _ _,by simp[Tr.strs,keysOf]⟩,Below.refl _ _⟩
   case round=>
    obtain⟨k,Ax,cx,hk,rfl,rfl,HO,HBL⟩:=hrel;clear k0 k1;have k0:=(HBL.out.cell (p:=⟨g,0,none⟩) (World.block_lt_of_cell? W1 _ HK.out.c0)).trans HK.out.c0;have k1:=(HBL.out.cell (p:=⟨g,1,none⟩) (World.block_lt_of_cell? W1 _ HK.out.c1)).trans HK.out.c1
    by_cases hlt:k<nk
    ·have hbw:=HK.out.below.trans (HBL.out.mono HK.out.below.size)
     have hkl:k<ks.length:=by rw[HLK.out];exact hlt
     obtain⟨b,o,rfl,hb,hc⟩:=rd_kid HR.out (by omega);obtain⟨⟨Ae',ne',ce'⟩,⟨Ak',nk',ck'⟩,c0,c1,c2,hkid⟩:=hc k hkl;dsimp only at c0 c1 c2;have c0:=(hbw.cell (p:=⟨b,o+k*3,none⟩) hb).trans c0;have c1:=(hbw.cell (p:=⟨b,o+k*3+1,none⟩) hb).trans c1;have c2:=(hbw.cell (p:=⟨b,o+k*3+2,none⟩) hb).trans c2;obtain⟨key,hkey⟩:∃ key,key=(ks[k]).1:=⟨_,rfl⟩;rw[← hkey]at c0
     have HSUC:Hid (keysOf (ks.take (k+1))=keysOf (ks.take k)++[key]):=by unfold Hid keysOf;rw[List.take_succ_eq_append_getElem hkl,List.map_append,hkey];rfl
     clear hc hkid hkey hbw;obtain⟨wk,hwk⟩:∃ W,W=wr.alloc (.cells #[.string key,.slice Ae' ne' ce',.slice Ak' nk' ck'] 73):=⟨_,rfl⟩
     have hbk:Below wr.heap.size wr wk:=by rw[hwk];exact Dt.box_below _ _ _
     have HBL:=Lib.hid (HBL.out.trans (hbk.mono HBL.out.size));have HO:=Lib.hid (own_later HO.out hbk)
     have hsk:wk.heap.size=wr.heap.size+1:=by rw[hwk];simp
     obtain⟨A6,c6,w6,r1,r2,r3⟩:=push_str wk W1.heap.size (wr.heap.size+1) hsk HO.out HBL.out.size key (by omega);rw[hwk]at r1;clear hwk hbk hsk
     have HO6:Hid (Own w6 W1.heap.size 9 1 A6 (k+1) c6 (strs (keysOf (ks.take (k+1))))):=by unfold Hid;rw[HSUC.out];exact r2
     have HBL6:=Lib.hid (HBL.out.trans r3);have Hrun:=Lib.hid r1;clear r1 r2 r3;go_wp2_with (at_builtin;refine Lib.wpList_append_run _ rfl _ _ _ _ rfl _ _ rfl rfl _ _ Hrun.out ?_);go_roundw
     case rel=>exact⟨k+1,A6,c6,by omega,by go_num,rfl,HO6.out,HBL6.out⟩
     case measure=>simp[intOf];omega
    ·obtain rfl:k=nk:=by omega
     have HRD:Hid (Rd wr wr.heap.size 1 Ax k cx (strs (keysOf ks))):=by
      have h1:=HO.out;rw[List.take_of_length_le (by rw[HLK.out];exact Nat.le_refl _)]at h1;exact h1.rd
     have HB:=Lib.hid (HK.out.below.trans (HBL.out.mono HK.out.below.size));go_wp2_with fail;go_ret;exact⟨Ax,k,cx,rfl,rfl,HRD.out,HB.out⟩
end Cs
end Go.Proofs.YtjpcechcefhcfaaGreat
