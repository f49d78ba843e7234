/- Compared, cloned, told of some keys: the program's. -/
import Derived.Test.YtjpcechcefhcfaaGreatG00
import Derived.Test.YtjpcechcefhcfaaGreatCauJoin
namespace Go.Proofs.YtjpcechcefhcfaaGreat
open Go.ChangeShapes Go.WideShapes Go.ChangeAt Go.RowKit
namespace Cs
open Tr Cx Sp Rw Classical
theorem boxC2r (w:World) (Ae Ak Ca:Option Addr) (ne nk ce ck na ca9:Nat):∃ (W:World) (p r:Nat),Hid (W=(w.alloc (.cells #[.slice Ae ne ce,.slice Ak nk ck,.slice Ca na ca9] 29)).alloc (.cells #[.slice none 0 0,.slice none 0 0,.slice none 0 0] 29))∧Hid (p=w.heap.size)∧Hid (r=p+1)∧Hid (Kept [(⟨p,0,none⟩,.slice Ae ne ce),(⟨p,1,none⟩,.slice Ak nk ck),(⟨p,2,none⟩,.slice Ca na ca9)] w W)∧Hid (Kept [(⟨r,0,none⟩,.slice none 0 0),(⟨r,1,none⟩,.slice none 0 0),(⟨r,2,none⟩,.slice none 0 0)] w W)∧Hid (Free r W):=by
 refine⟨_,_,_,rfl,rfl,rfl,?_,?_,⟨by simp,fun j=>by go_simp⟩⟩
 ·have h0:=Kept.nil_of (Dt.box2_below w #[.slice Ae ne ce,.slice Ak nk ck,.slice Ca na ca9] #[.slice none 0 0,.slice none 0 0,.slice none 0 0] 29 29)
  refine ((h0.cons_of ?_).cons_of ?_).cons_of ?_ <;> go_simp
 ·have h0:=Kept.nil_of (Dt.box2_below w #[.slice Ae ne ce,.slice Ak nk ck,.slice Ca na ca9] #[.slice none 0 0,.slice none 0 0,.slice none 0 0] 29 29)
  refine ((h0.cons_of ?_).cons_of ?_).cons_of ?_ <;> go_simp
set_option maxRecDepth 100000 in
set_option maxHeartbeats 4000000 in
theorem cloneK_any (t:T) (cs:List S3) (Ae Ak Ca:Option Addr) (ne nk ce ck na ca9:Nat) (w:World) (hn:nodes t≤1000) (hl:cs.length=na) (hna:na≤1000) (hr:RdT w w.heap.size t ⟨Ae,ne,ce⟩ ⟨Ak,nk,ck⟩) (hc:Rd w w.heap.size 3 Ca na ca9 (spsC cs)) :
  Calls Tryz.prog 40 #[.agg #[.slice Ae ne ce,.slice Ak nk ck,.slice Ca na ca9]] w (CausIs (if rightKB (t,cs)=true then (t,cs)else noneK) w):=by
 obtain⟨k9,hk9⟩:∃ k,(if rightKB (t,cs)=true then (t,cs)else noneK)=k:=⟨_,rfl⟩
 rw[hk9];have HK9:=Lib.hid hk9;clear hk9;have HA:=Lib.hid (And.intro hn (And.intro hl (And.intro hr hc)));clear hn hl hr hc;obtain⟨W,p,r,HW,HP,HR,HKc,HKR,HFR⟩:=boxC2r w Ae Ak Ca ne nk ce ck na ca9
 have hwr:w.heap.size≤r:=by have:=HP.out;have:=HR.out;omega
 have hpr:p<r:=by have:=HR.out;omega
 obtain⟨c0,c1,c2,-⟩:=HKc.out.cj;have HRA:=Lib.hid (rightK_any t cs Ae Ak Ca ne nk ce ck na ca9 W HA.out.1 HA.out.2.1 hna (RdT.more HKc.out.below.size _ (RdT.below HA.out.2.2.1 HKc.out.below)) ((HA.out.2.2.2.below HKc.out.below).more HKc.out.below.size));go_enter Tryz.func40,Tryz.ntmps40;go_wp2_with fail;rw[← HW.out,← HP.out]
 try rw[← HR.out]
 cases ha:rightKB (t,cs)with
 | false=>
  rw[ha]at HRA
  obtain rfl:k9=noneK:=by rw[← HK9.out,ha];rfl
  clear ha;refine HRA.out.mono ?_;rintro e v1 ⟨rfl,hb9⟩;have HKc:=Lib.hid (HKc.out.later hb9);have HKR:=Lib.hid (HKR.out.later hb9);have HFR:=Lib.hid (HFR.out.later hb9);clear hb9 c0 c1 c2;obtain⟨z0,z1,z2,-⟩:=HKR.out.cj;have m0:=HFR.out.2 0;have m1:=HFR.out.2 1;have m2:=HFR.out.2 2;obtain⟨W9,hW9⟩:∃ W,W=((v1.setCell ⟨r,0,none⟩ (.slice none 0 0)).setCell ⟨r,1,none⟩ (.slice none 0 0)).setCell ⟨r,2,none⟩ (.slice none 0 0):=⟨_,rfl⟩
  have HB9:Hid (Below w.heap.size w W9):=by
   unfold Hid;rw[hW9];exact ((HKc.out.below.setCell (p:=⟨r,0,none⟩) hwr _).setCell (p:=⟨r,1,none⟩) hwr _).setCell (p:=⟨r,2,none⟩) hwr _
  have HOW9:Hid (OwC W9 w.heap.size noneK none 0 0 none 0 0 none 0 0):=by
   unfold Hid;rw[hW9];exact OwC.no _ _
  have l0:W9.cell? ⟨r,0,none⟩=some (.slice none 0 0):=by rw[hW9];go_simp
  have l1:W9.cell? ⟨r,1,none⟩=some (.slice none 0 0):=by rw[hW9];go_simp
  have l2:W9.cell? ⟨r,2,none⟩=some (.slice none 0 0):=by rw[hW9];go_simp
  have HW9:=Lib.hid hW9;clear hW9;go_wp2_with fail;rw[← HW9.out];refine bodyPost_ret (v:=.agg #[.slice none 0 0,.slice none 0 0,.slice none 0 0]) (by simp[results,Tryz.results40,go_sem,l0,l1,l2]) rfl ⟨none,0,0,none,0,0,none,0,0,rfl,HOW9.out,HB9.out⟩
 | true=>
  rw[ha]at HRA
  obtain rfl:(t,cs)=k9:=by rw[← HK9.out,ha];rfl
  have HYA:Hid (RK (t,cs)):=rightKB_iff.1 ha;clear ha;refine HRA.out.mono ?_;rintro e v1 ⟨rfl,hb9⟩;have HKc:=Lib.hid (HKc.out.later hb9);have HKR:=Lib.hid (HKR.out.later hb9);have HFR:=Lib.hid (HFR.out.later hb9);clear hb9 c0 c1 c2;go_wp2_with fail;refine wp_region_held_drew (S:=Conj _) (by kernel_rfl) HKc.out.drew.cj (fun hHeld=>?_);obtain⟨w1,hw1⟩:∃ v,v=v1.drew:=⟨_,rfl⟩
  have HKc:Hid (Kept [(⟨p,0,none⟩,.slice Ae ne ce),(⟨p,1,none⟩,.slice Ak nk ck),(⟨p,2,none⟩,.slice Ca na ca9)] w w1):=by unfold Hid;rw[hw1];exact HKc.out.drew
  have HKR:Hid (Kept [(⟨r,0,none⟩,.slice none 0 0),(⟨r,1,none⟩,.slice none 0 0),(⟨r,2,none⟩,.slice none 0 0)] w w1):=by unfold Hid;rw[hw1];exact HKR.out.drew
  have HFR:Hid (Free r w1):=by unfold Hid;rw[hw1];exact HFR.out.drew
  rw[← hw1]at hHeld ⊢;clear hw1;refine Tk 0 7 ?_;refine Tk 1 8 ?_;refine Tk 3 10 ?_;refine Tk 4 11 ?_;refine Tc 2 (fun K hK=>?_);go_simp;(go_at_call 73;refine (clone_any t Ae Ak ne nk ce ck w1 (LenT.few (by have:=HA.out.1;omega)) (by have:=HA.out.1;omega) (RdT.more HKc.out.below.size _ (RdT.below HA.out.2.2.1 HKc.out.below))).mono ?_);rw[rightB_iff.2 HYA.out.tree,if_pos rfl];rintro e v2 ⟨Re,rn,rc,Rk,rm,rd,rfl,hro,hb9⟩;obtain⟨B1,hB1⟩:∃ z,z=w1.heap.size:=⟨_,rfl⟩
  have hrB:r<B1:=by rw[hB1];exact HFR.out.1
  have HWB:Hid (w.heap.size≤B1):=by unfold Hid;rw[hB1];exact HKc.out.below.size
  have HRO:Hid (RdO v2 (fun b=>B1≤b) t ⟨Re,rn,rc⟩ ⟨Rk,rm,rd⟩):=by unfold Hid;rw[hB1];exact hro
  have hB2:B1≤v2.heap.size:=by rw[hB1];exact hb9.size
  have HKc:=Lib.hid (HKc.out.later hb9);have HKR:=Lib.hid (HKR.out.later hb9);have HFR:=Lib.hid (HFR.out.later hb9);clear hro hb9 hB1;clear hHeld;refine Th hK ?_ (fun hHeld=>?_)
  ·exact HKc.out.cj
  clear hK K;refine Tc 5 (fun K hK=>?_);go_simp;(go_at_call 74;refine (copiedC_any cs Ca na ca9 v2 HA.out.2.1 hna ((HA.out.2.2.2.below HKc.out.below).more HKc.out.below.size)).mono ?_);rintro e v7 ⟨Rc,re,rfl,hxo,hb9⟩;have HOW:Hid (OwC v7 B1 (t,cs) Re rn rc Rk rm rd Rc na re):=⟨RdO.later HRO.out hb9,HA.out.2.1,hxo.mono fun b hb _=>by have h:v2.heap.size≤b:=hb;omega⟩;have HKc:=Lib.hid (HKc.out.later hb9);have HKR:=Lib.hid (HKR.out.later hb9);have HFR:=Lib.hid (HFR.out.later hb9);clear hb9 hxo HRO;obtain⟨z0,z1,z2,-⟩:=HKR.out.cj;have m0:=HFR.out.2 0;have m1:=HFR.out.2 1;have m2:=HFR.out.2 2;clear hHeld;refine Th hK ?_ (fun hHeld=>?_)
  ·exact HKc.out.cj
  clear hK K;refine Tk 6 13 ?_;refine Tc 7 (fun K hK=>?_);go_simp;refine Th hK ?_ (fun hHeld2=>?_)
  ·(try dsimp only)
   have h9:=HKc.out.past3 (p:=r) hwr (fun x hx=>by simp at hx;rcases hx with rfl | rfl | rfl <;> (dsimp only;omega)) (.slice Re rn rc) (.slice Rk rm rd) (.slice Rc na re)
   exact h9.cj
  clear hK K hHeld;have hHeld:=hHeld2;clear hHeld2;refine wpAnyH_done (by kernel_rfl) ?_ _;clear hHeld;obtain⟨W9,hW9⟩:∃ W,W=((v7.setCell ⟨r,0,none⟩ (.slice Re rn rc)).setCell ⟨r,1,none⟩ (.slice Rk rm rd)).setCell ⟨r,2,none⟩ (.slice Rc na re):=⟨_,rfl⟩
  have HB9:Hid (Below w.heap.size w W9):=by
   unfold Hid;rw[hW9];exact ((HKc.out.below.setCell (p:=⟨r,0,none⟩) hwr _).setCell (p:=⟨r,1,none⟩) hwr _).setCell (p:=⟨r,2,none⟩) hwr _
  have HOW9:Hid (OwC W9 w.heap.size (t,cs) Re rn rc Rk rm rd Rc na re):=by
   unfold Hid;rw[hW9];exact (HOW.out.set3 hrB _ _ _).mono HWB.out
  have l0:W9.cell? ⟨r,0,none⟩=some (.slice Re rn rc):=by rw[hW9];go_simp
  have l1:W9.cell? ⟨r,1,none⟩=some (.slice Rk rm rd):=by rw[hW9];go_simp
  have l2:W9.cell? ⟨r,2,none⟩=some (.slice Rc na re):=by rw[hW9];go_simp
  clear z0 z1 z2 m0 m1 m2;rw[← hW9];clear hW9;go_wp2_with fail;refine bodyPost_ret (v:=.agg #[.slice Re rn rc,.slice Rk rm rd,.slice Rc na re]) (by simp[results,Tryz.results40,go_sem,l0,l1,l2]) rfl ⟨Re,rn,rc,Rk,rm,rd,Rc,na,re,rfl,HOW9.out,HB9.out⟩
end Cs
end Go.Proofs.YtjpcechcefhcfaaGreat
