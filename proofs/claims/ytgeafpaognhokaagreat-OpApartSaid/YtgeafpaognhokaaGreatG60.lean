/- Texts of the lower layers, and of layer 9, put together. -/
import Derived.Test.YtgeafpaognhokaaGreatG00
import Derived.Test.YtgeafpaognhokaaGreatCauJoin
import Derived.Test.YtgeafpaognhokaaGreatTreeRefSame
import Derived.Test.YtgeafpaognhokaaGreatG10
import Derived.Test.YtgeafpaognhokaaGreatG50
import Derived.Test.YtgeafpaognhokaaGreatG20
import Derived.Test.YtgeafpaognhokaaGreatTreeRefRight
import Derived.Test.YtgeafpaognhokaaGreatTreeBuild
import Derived.Test.YtgeafpaognhokaaGreatG01
import Derived.Test.YtgeafpaognhokaaGreatOpRef1
import Derived.Test.YtgeafpaognhokaaGreatG30
import Derived.Test.YtgeafpaognhokaaGreatTreeLeaves
import Derived.Test.YtgeafpaognhokaaGreatTreeRight
import Derived.Lib.Strings
import Derived.Lib.Slices
import Derived.Lib.Walk
import Derived.Lib.Bytealg
namespace Go.Proofs.YtgeafpaognhokaaGreat
open Go.ChangeShapes Go.WideShapes Go.ChangeAt Go.RowKit
namespace Cs
open Tr Cx Sp Rw Classical
theorem boxC2r (w:World) (Ae Ak Ca:Option Addr) (ne nk ce ck na ca9:Nat):∃ (W:World) (p r:Nat),Hid (W=(w.alloc (.cells #[.slice Ae ne ce,.slice Ak nk ck,.slice Ca na ca9] 42)).alloc (.cells #[.slice none 0 0,.slice none 0 0,.slice none 0 0] 42))∧Hid (p=w.heap.size)∧Hid (r=p+1)∧Hid (Kept [(⟨p,0,none⟩,.slice Ae ne ce),(⟨p,1,none⟩,.slice Ak nk ck),(⟨p,2,none⟩,.slice Ca na ca9)] w W)∧Hid (Kept [(⟨r,0,none⟩,.slice none 0 0),(⟨r,1,none⟩,.slice none 0 0),(⟨r,2,none⟩,.slice none 0 0)] w W)∧Hid (Free r W):=by
 refine⟨_,_,_,rfl,rfl,rfl,?_,?_,⟨by simp,fun j=>by go_simp⟩⟩
 ·have h0:=Kept.nil_of (Dt.box2_below w #[.slice Ae ne ce,.slice Ak nk ck,.slice Ca na ca9] #[.slice none 0 0,.slice none 0 0,.slice none 0 0] 42 42)
  refine ((h0.cons_of ?_).cons_of ?_).cons_of ?_ <;> go_simp
 ·have h0:=Kept.nil_of (Dt.box2_below w #[.slice Ae ne ce,.slice Ak nk ck,.slice Ca na ca9] #[.slice none 0 0,.slice none 0 0,.slice none 0 0] 42 42)
  refine ((h0.cons_of ?_).cons_of ?_).cons_of ?_ <;> go_simp
set_option maxRecDepth 100000 in
set_option maxHeartbeats 4000000 in
theorem cloneK_any (t:T) (cs:List S3) (Ae Ak Ca:Option Addr) (ne nk ce ck na ca9:Nat) (w:World) (hn:nodes t≤1000) (hl:cs.length=na) (hna:na≤1000) (hr:RdT w w.heap.size t ⟨Ae,ne,ce⟩ ⟨Ak,nk,ck⟩) (hc:Rd w w.heap.size 3 Ca na ca9 (spsC cs)) :
  Calls Tryz.prog 107 #[.agg #[.slice Ae ne ce,.slice Ak nk ck,.slice Ca na ca9]] w (CausIs (if rightKB (t,cs)=true then (t,cs)else noneK) w):=by
 obtain⟨k9,hk9⟩:∃ k,(if rightKB (t,cs)=true then (t,cs)else noneK)=k:=⟨_,rfl⟩
 rw[hk9];have HK9:=Lib.hid hk9;clear hk9;have HA:=Lib.hid (And.intro hn (And.intro hl (And.intro hr hc)));clear hn hl hr hc;obtain⟨W,p,r,HW,HP,HR,HKc,HKR,HFR⟩:=boxC2r w Ae Ak Ca ne nk ce ck na ca9
 have hwr:w.heap.size≤r:=by have:=HP.out;have:=HR.out;omega
 have hpr:p<r:=by have:=HR.out;omega
 obtain⟨c0,c1,c2,-⟩:=HKc.out.cj;have HRA:=Lib.hid (rightK_any t cs Ae Ak Ca ne nk ce ck na ca9 W HA.out.1 HA.out.2.1 hna (RdT.more HKc.out.below.size _ (RdT.below HA.out.2.2.1 HKc.out.below)) ((HA.out.2.2.2.below HKc.out.below).more HKc.out.below.size));go_enter Tryz.func107,Tryz.ntmps107;go_wp2_with fail;rw[← HW.out,← HP.out]
 try rw[← HR.out]
 cases ha:rightKB (t,cs)with
 | false=>
  rw[ha]at HRA
  obtain rfl:k9=noneK:=by rw[← HK9.out,ha];rfl
  clear ha;refine HRA.out.mono ?_;rintro e v1 ⟨rfl,hb9⟩;have HKc:=Lib.hid (HKc.out.later hb9);have HKR:=Lib.hid (HKR.out.later hb9);have HFR:=Lib.hid (HFR.out.later hb9);clear hb9 c0 c1 c2;obtain⟨z0,z1,z2,-⟩:=HKR.out.cj;have m0:=HFR.out.2 0;have m1:=HFR.out.2 1;have m2:=HFR.out.2 2;obtain⟨W9,hW9⟩:∃ W,W=((v1.setCell ⟨r,0,none⟩ (.slice none 0 0)).setCell ⟨r,1,none⟩ (.slice none 0 0)).setCell ⟨r,2,none⟩ (.slice none 0 0):=⟨_,rfl⟩
  have HB9:Hid (Below w.heap.size w W9):=by
   unfold Hid;rw[hW9];exact ((HKc.out.below.setCell (p:=⟨r,0,none⟩) hwr _).setCell (p:=⟨r,1,none⟩) hwr _).setCell (p:=⟨r,2,none⟩) hwr _
  have HOW9:Hid (OwC W9 w.heap.size noneK none 0 0 none 0 0 none 0 0):=by
   unfold Hid;rw[hW9];exact OwC.no _ _
  have l0:W9.cell? ⟨r,0,none⟩=some (.slice none 0 0):=by rw[hW9];go_simp
  have l1:W9.cell? ⟨r,1,none⟩=some (.slice none 0 0):=by rw[hW9];go_simp
  have l2:W9.cell? ⟨r,2,none⟩=some (.slice none 0 0):=by rw[hW9];go_simp
  have HW9:=Lib.hid hW9;clear hW9;go_wp2_with fail;rw[← HW9.out];refine bodyPost_ret (v:=.agg #[.slice none 0 0,.slice none 0 0,.slice none 0 0]) (by simp[results,Tryz.results107,go_sem,l0,l1,l2]) rfl ⟨none,0,0,none,0,0,none,0,0,rfl,HOW9.out,HB9.out⟩
 | true=>
  rw[ha]at HRA
  obtain rfl:(t,cs)=k9:=by rw[← HK9.out,ha];rfl
  have HYA:Hid (RK (t,cs)):=rightKB_iff.1 ha;clear ha;refine HRA.out.mono ?_;rintro e v1 ⟨rfl,hb9⟩;have HKc:=Lib.hid (HKc.out.later hb9);have HKR:=Lib.hid (HKR.out.later hb9);have HFR:=Lib.hid (HFR.out.later hb9);clear hb9 c0 c1 c2;go_wp2_with fail;refine wp_region_held_drew (S:=Conj _) (by kernel_rfl) HKc.out.drew.cj (fun hHeld=>?_);obtain⟨w1,hw1⟩:∃ v,v=v1.drew:=⟨_,rfl⟩
  have HKc:Hid (Kept [(⟨p,0,none⟩,.slice Ae ne ce),(⟨p,1,none⟩,.slice Ak nk ck),(⟨p,2,none⟩,.slice Ca na ca9)] w w1):=by unfold Hid;rw[hw1];exact HKc.out.drew
  have HKR:Hid (Kept [(⟨r,0,none⟩,.slice none 0 0),(⟨r,1,none⟩,.slice none 0 0),(⟨r,2,none⟩,.slice none 0 0)] w w1):=by unfold Hid;rw[hw1];exact HKR.out.drew
  have HFR:Hid (Free r w1):=by unfold Hid;rw[hw1];exact HFR.out.drew
  rw[← hw1]at hHeld ⊢;clear hw1;refine Tk 0 7 ?_;refine Tk 1 8 ?_;refine Tk 3 10 ?_;refine Tk 4 11 ?_;refine Tc 2 (fun K hK=>?_);go_simp;(go_at_call 146;refine (clone_any t Ae Ak ne nk ce ck w1 (LenT.few (by have:=HA.out.1;omega)) (by have:=HA.out.1;omega) (RdT.more HKc.out.below.size _ (RdT.below HA.out.2.2.1 HKc.out.below))).mono ?_);rw[rightB_iff.2 HYA.out.tree,if_pos rfl];rintro e v2 ⟨Re,rn,rc,Rk,rm,rd,rfl,hro,hb9⟩;obtain⟨B1,hB1⟩:∃ z,z=w1.heap.size:=⟨_,rfl⟩
  have hrB:r<B1:=by rw[hB1];exact HFR.out.1
  have HWB:Hid (w.heap.size≤B1):=by unfold Hid;rw[hB1];exact HKc.out.below.size
  have HRO:Hid (RdO v2 (fun b=>B1≤b) t ⟨Re,rn,rc⟩ ⟨Rk,rm,rd⟩):=by unfold Hid;rw[hB1];exact hro
  have hB2:B1≤v2.heap.size:=by rw[hB1];exact hb9.size
  have HKc:=Lib.hid (HKc.out.later hb9);have HKR:=Lib.hid (HKR.out.later hb9);have HFR:=Lib.hid (HFR.out.later hb9);clear hro hb9 hB1;clear hHeld;refine Th hK ?_ (fun hHeld=>?_)
  ·exact HKc.out.cj
  clear hK K;refine Tc 5 (fun K hK=>?_);go_simp;(go_at_call 147;refine (copiedC_any cs Ca na ca9 v2 HA.out.2.1 hna ((HA.out.2.2.2.below HKc.out.below).more HKc.out.below.size)).mono ?_);rintro e v7 ⟨Rc,re,rfl,hxo,hb9⟩;have HOW:Hid (OwC v7 B1 (t,cs) Re rn rc Rk rm rd Rc na re):=⟨RdO.later HRO.out hb9,HA.out.2.1,hxo.mono fun b hb _=>by have h:v2.heap.size≤b:=hb;omega⟩;have HKc:=Lib.hid (HKc.out.later hb9);have HKR:=Lib.hid (HKR.out.later hb9);have HFR:=Lib.hid (HFR.out.later hb9);clear hb9 hxo HRO;obtain⟨z0,z1,z2,-⟩:=HKR.out.cj;have m0:=HFR.out.2 0;have m1:=HFR.out.2 1;have m2:=HFR.out.2 2;clear hHeld;refine Th hK ?_ (fun hHeld=>?_)
  ·exact HKc.out.cj
  clear hK K;refine Tk 6 13 ?_;refine Tc 7 (fun K hK=>?_);go_simp;refine Th hK ?_ (fun hHeld2=>?_)
  ·(try dsimp only)
   have h9:=HKc.out.past3 (p:=r) hwr (fun x hx=>by simp at hx;rcases hx with rfl | rfl | rfl <;> (dsimp only;omega)) (.slice Re rn rc) (.slice Rk rm rd) (.slice Rc na re)
   exact h9.cj
  clear hK K hHeld;have hHeld:=hHeld2;clear hHeld2;refine wpAnyH_done (by kernel_rfl) ?_ _;clear hHeld;obtain⟨W9,hW9⟩:∃ W,W=((v7.setCell ⟨r,0,none⟩ (.slice Re rn rc)).setCell ⟨r,1,none⟩ (.slice Rk rm rd)).setCell ⟨r,2,none⟩ (.slice Rc na re):=⟨_,rfl⟩
  have HB9:Hid (Below w.heap.size w W9):=by
   unfold Hid;rw[hW9];exact ((HKc.out.below.setCell (p:=⟨r,0,none⟩) hwr _).setCell (p:=⟨r,1,none⟩) hwr _).setCell (p:=⟨r,2,none⟩) hwr _
  have HOW9:Hid (OwC W9 w.heap.size (t,cs) Re rn rc Rk rm rd Rc na re):=by
   unfold Hid;rw[hW9];exact (HOW.out.set3 hrB _ _ _).mono HWB.out
  have l0:W9.cell? ⟨r,0,none⟩=some (.slice Re rn rc):=by rw[hW9];go_simp
  have l1:W9.cell? ⟨r,1,none⟩=some (.slice Rk rm rd):=by rw[hW9];go_simp
  have l2:W9.cell? ⟨r,2,none⟩=some (.slice Rc na re):=by rw[hW9];go_simp
  clear z0 z1 z2 m0 m1 m2;rw[← hW9];clear hW9;go_wp2_with fail;refine bodyPost_ret (v:=.agg #[.slice Re rn rc,.slice Rk rm rd,.slice Rc na re]) (by simp[results,Tryz.results107,go_sem,l0,l1,l2]) rfl ⟨Re,rn,rc,Rk,rm,rd,Rc,na,re,rfl,HOW9.out,HB9.out⟩
end Cs
end Go.Proofs.YtgeafpaognhokaaGreat
namespace Go.Proofs.YtgeafpaognhokaaGreat
open Go.ChangeShapes Go.WideShapes Go.ChangeAt Go.RowKit
namespace Cs
open Tr Cx Sp Rw Classical
set_option maxRecDepth 100000 in
set_option maxHeartbeats 4000000 in
theorem refsameK_any (t u:T) (cs ds:List S3) (Ae Ak Ca Be Bk Cb:Option Addr) (ne nk ce ck na ca9 me mk de dk nb cb9:Nat) (w:World) (z:Bool) (hz:decide ((t,cs)=(u,ds))=z) (hn:nodes t≤1000000) (hl:cs.length=na) (hna:na≤1000000) (hr:RdT w w.heap.size t ⟨Ae,ne,ce⟩ ⟨Ak,nk,ck⟩) (hc:Rd w w.heap.size 3 Ca na ca9 (spsC cs)) (hl2:ds.length=nb) (hr2:RdT w w.heap.size u ⟨Be,me,de⟩ ⟨Bk,mk,dk⟩) (hc2:Rd w w.heap.size 3 Cb nb cb9 (spsC ds)) :
  Calls Tryz.prog 22 #[.agg #[.slice Ae ne ce,.slice Ak nk ck,.slice Ca na ca9],.agg #[.slice Be me de,.slice Bk mk dk,.slice Cb nb cb9]] w fun e w'=>e = .returned (.bool z)∧Below w.heap.size w w':=by
 have HZ:=Lib.hid hz;have HA:=Lib.hid (And.intro hl (And.intro hc (And.intro hl2 hc2)));clear hz hl hc hl2 hc2;obtain⟨W,p,q,HW,HP,HQ,HKc⟩:=boxC2 w Ae Ak Be Bk Ca Cb ne nk ce ck me mk de dk na ca9 nb cb9;obtain⟨c0,c1,c2,c3,c4,c5,-⟩:=HKc.out.cj;obtain⟨x,hx⟩:∃ x,eqB t u=x:=⟨_,rfl⟩;have HX:=Lib.hid hx;have HST:=Lib.hid (refsameT_any t u Ae Ak ne nk ce ck Be Bk me mk de dk W hn (RdT.more HKc.out.below.size _ (RdT.below hr HKc.out.below)) (RdT.more HKc.out.below.size _ (RdT.below hr2 HKc.out.below)));rw[hx]at HST;clear hr hr2 hx;go_enter Tryz.func22,Tryz.ntmps22;go_wp2_with fail;rw[← HW.out,← HP.out]
 try rw[← HQ.out]
 refine HST.out.mono ?_;rintro e v2 ⟨rfl,hb9⟩;have HKc:=Lib.hid (HKc.out.later hb9);clear hb9 c0 c1 c2 c3 c4 c5
 cases x with
 | false=>
  obtain rfl:z=false:=by
   rw[← HZ.out]
   exact decide_eq_false fun h=>by rw[eqB_yes (congrArg Prod.fst h)]at HX;cases HX.out
  go_wp2_with fail;go_ret;exact⟨by first | rfl | (rw[HZ.out];rfl) | rw[HZ.out],HKc.out.below⟩
 | true=>
  have htu:t=u:=eqB_iff.1 HX.out;obtain⟨c0,c1,c2,c3,c4,c5,-⟩:=HKc.out.cj
  have HSC:=Lib.hid (refsameC_any cs ds na nb Ca Cb ca9 cb9 v2 HA.out.1 HA.out.2.2.1 hna ((HA.out.2.1.below HKc.out.below).more HKc.out.below.size) ((HA.out.2.2.2.below HKc.out.below).more HKc.out.below.size) z (by
   rw[← HZ.out]
   by_cases h:cs=ds
   ·rw[decide_eq_true h,decide_eq_true (by rw[htu,h])]
   ·rw[decide_eq_false h,decide_eq_false fun h2=>h (congrArg Prod.snd h2)]))
  clear htu;go_wp2_with fail;refine HSC.out.mono ?_;rintro e v3 ⟨rfl,hb9⟩;have HKc:=Lib.hid (HKc.out.later hb9);clear hb9 c0 c1 c2 c3 c4 c5;go_wp2_with fail;go_ret;exact⟨by first | rfl | (rw[HZ.out];rfl) | rw[HZ.out],HKc.out.below⟩
structure CP where
 k:K
 e:SV
 d:SV
 c:SV
structure RdP (w:World) (p:CP):Prop where
 tree:RdT w w.heap.size p.k.1 p.e p.d
 len:p.k.2.length=p.c.n
 ctx:Rd w w.heap.size 3 p.c.A p.c.n p.c.c (spsC p.k.2)
theorem RdP.later {w w':World} {p:CP} (h:RdP w p) (hb:Below w.heap.size w w'):RdP w' p:=⟨RdT.later h.tree hb,h.len,h.ctx.later hb⟩
def cpV (p:CP):List Value:=[.slice p.e.A p.e.n p.e.c,.slice p.d.A p.d.n p.d.c,.slice p.c.A p.c.n p.c.c]
def CellsP (w:World) (g:Nat) (ps:List CP):Prop:=∀ (k:Nat) (h:k<ps.length),w.cell? ⟨g,k*3,none⟩=some (.slice ps[k].e.A ps[k].e.n ps[k].e.c)∧w.cell? ⟨g,k*3+1,none⟩=some (.slice ps[k].d.A ps[k].d.n ps[k].d.c)∧w.cell? ⟨g,k*3+2,none⟩=some (.slice ps[k].c.A ps[k].c.n ps[k].c.c)
theorem CellsP.later {w w':World} {g:Nat} {ps:List CP} (h:CellsP w g ps) (hb:Below w.heap.size w w'):CellsP w' g ps:=fun k hk=>by
 obtain⟨h1,h2,h3⟩:=h k hk;have hg:=World.block_lt_of_cell? w _ h1;exact⟨(hb.cell (p:=⟨g,k*3,none⟩) hg).trans h1,(hb.cell (p:=⟨g,k*3+1,none⟩) hg).trans h2,(hb.cell (p:=⟨g,k*3+2,none⟩) hg).trans h3⟩
end Cs
end Go.Proofs.YtgeafpaognhokaaGreat
namespace Go.Proofs.YtgeafpaognhokaaGreat
open Go.ChangeShapes Go.WideShapes Go.ChangeAt Go.RowKit
namespace Cs
open Tr Cx Sp Rw Classical
theorem boxTD (w:World) (Ae Ak:Option Addr) (ne nk ce ck:Nat) (a n:Int):∃ (W:World) (p q:Nat),Hid (W=(w.alloc (.cells #[.slice Ae ne ce,.slice Ak nk ck] 35)).alloc (.cells #[.int .i64 a,.int .i64 n] 37))∧Hid (p=w.heap.size)∧Hid (q=p+1)∧Hid (Kept [(⟨p,0,none⟩,.slice Ae ne ce),(⟨p,1,none⟩,.slice Ak nk ck),(⟨q,0,none⟩,.int .i64 a),(⟨q,1,none⟩,.int .i64 n)] w W):=by
 refine⟨_,_,_,rfl,rfl,rfl,?_⟩;have h0:=Kept.nil_of (show Below w.heap.size w ((w.alloc (.cells #[.slice Ae ne ce,.slice Ak nk ck] 35)).alloc (.cells #[.int .i64 a,.int .i64 n] 37)) from ((Below.refl _ _).alloc (Nat.le_refl _) _).alloc (by simp) _)
 refine (((h0.cons_of ?_).cons_of ?_).cons_of ?_).cons_of ?_ <;> go_simp
theorem rd_dot1 (w:World) (a n:Int) (ty:TypeId):Rd (w.alloc (.cells #[.int .i64 a,.int .i64 n] ty)) (w.heap.size+1) 2 (some ⟨w.heap.size,0,none⟩) 1 1 ([(a,n)].flatMap dotC):=
 ⟨rfl,Nat.le_refl _,fun u hu=>dotC_one (a,n) u (by simpa using hu),fun _=>⟨_,_,rfl,by omega,fun j u hu=>by
  rw[Nat.zero_add,cell_of_row _ _ j _ _ (0,0) (heap_alloc_new _ _)]
  simpa [dotC] using hu⟩⟩
theorem has_cb {u:List S3} {a n:Int} (hd:Dt.rightB a n=true) (hu:RightC u):hasCB u a n=hasC u a n:=by
 unfold hasCB;rw[hd,show rightCB u=true from decide_eq_true hu];rfl
def DotsIs (t:T) (a n:Int) (w:World) (e:Ending) (w':World):Prop:=∃ (v:List S3) (z:Int) (q c:Nat) (A:Option Addr),e = .returned (.tuple #[.slice A q c,.int .i64 z])∧Hid (v.length=q∧RO w' (fun b=>w.heap.size≤b) 3 A q c (spsC v))∧Hid ((checkB t a n=true→z=0∧∃ u,OfC (dl t) u∧PutC uniF u (oneC a n) v∧q≤4*nodes t+4)∧(checkB t a n=false→z=1∧v=[]))∧Below w.heap.size w w'
theorem dots_none {t:T} {a n:Int} {w w':World} (h:checkB t a n=false) (hb:Below w.heap.size w w'):DotsIs t a n w (.returned (.tuple #[.slice none 0 0,.int .i64 1])) w':=⟨[],1,0,0,none,rfl,Lib.hid (And.intro rfl (RO.nil _ _ _ _ _)),Lib.hid (And.intro (fun h2=>by rw[h]at h2;cases h2) (fun _=>⟨rfl,rfl⟩)),hb⟩
set_option maxRecDepth 100000 in
set_option maxHeartbeats 4000000 in
theorem fdots_any (t:T) (Ae Ak:Option Addr) (ne nk ce ck:Nat) (a n:Int) (w:World) (hl:LenT reachBytes t) (hn:nodes t≤1000) (hr:RdT w w.heap.size t ⟨Ae,ne,ce⟩ ⟨Ak,nk,ck⟩) :
  Calls Tryz.prog 92 #[.agg #[.slice Ae ne ce,.slice Ak nk ck],.agg #[.int .i64 a,.int .i64 n]] w (DotsIs t a n w):=by
 obtain⟨W,p,q,HW,HP,HQ,HKc⟩:=boxTD w Ae Ak ne nk ce ck a n;have HR:=Lib.hid (RdT.more HKc.out.below.size _ (RdT.below hr HKc.out.below));have HL:=Lib.hid hl;have HN:=Lib.hid hn;clear hr hl hn;have c0:=HKc.out.c0;have c1:=HKc.out.c1;go_enter Tryz.func92,Tryz.ntmps92;go_wp2_with fail;rw[← HP.out,← HW.out]
 try rw[← HQ.out]
 cases ht:Tr.rightB 5 t with
 | false=>
  have HCB:Hid (checkB t a n=false):=by unfold Hid checkB;rw[ht];rfl
  refine (dotsT_bad t Ae Ak ne nk ce ck W ht HL.out HR.out).mono ?_;rintro e v1 ⟨rfl,hb9⟩;have HKc:=Lib.hid (HKc.out.later hb9);clear hb9 c0 c1;go_wp2_with fail;go_ret2;exact dots_none HCB.out HKc.out.below
 | true=>
  have HT:=Lib.hid ht;refine (dotsT_any t Ae Ak ne nk ce ck W ht HL.out HN.out HR.out).mono ?_;rintro e v1 ⟨u,m,B,d,rfl,hu1,hu2,hm,hru,hb9⟩;have HKc:=Lib.hid (HKc.out.later hb9);have HU:=Lib.hid (And.intro hu1.out (And.intro hu2.out hm));obtain⟨g,hg⟩:∃ g,g=v1.heap.size:=⟨_,rfl⟩;obtain⟨v2,hv2⟩:∃ W,W=v1.alloc (.cells #[.int .i64 a,.int .i64 n] 37):=⟨_,rfl⟩
  have hb2:Below v1.heap.size v1 v2:=by rw[hv2];exact Dt.box_below _ _ _
  have HRU:=Lib.hid (hru.out.later hb2);have h1:=rd_dot1 v1 a n 37;rw[← hv2,← hg]at h1;have HOF:=Lib.hid (ofC_any [(a,n)] 1 (some ⟨g,0,none⟩) 1 v2 rfl (by omega) (h1.more (by rw[hv2];simp;omega)));have HKd:=Lib.hid (HKc.out.later hb2);have Hg:=Lib.hid hg;have Hv2:=Lib.hid hv2;clear hb9 c0 c1 hu1 hu2 hm hru hb2 h1 hg hv2 ht;have c2:=HKc.out.c2;have c3:=HKc.out.c3;go_wp2_with fail;rw[← Hg.out,← Hv2.out];refine HOF.out.mono ?_;clear c2 c3;rintro e v3 (⟨hgood,o,mo,Ao,co,rfl,ho1,ho2,hmo,hro,hb3⟩ | ⟨hno,rfl,hb3⟩)
  ·have hd:Dt.rightB a n=true:=hgood (a,n) (by simp)
   obtain rfl:o=oneC a n:=ho2.out.eq (of_oneC hd);have HKc:=Lib.hid (HKd.out.later hb3);have HRU:=Lib.hid (HRU.out.later hb3);have HO:=Lib.hid (And.intro ho1.out (And.intro hro.out hmo));have HD:=Lib.hid hd;obtain⟨z,hz⟩:∃ z,hasC u a n=z:=⟨_,rfl⟩
   have hcb:hasCB u a n=z:=by rw[has_cb hd HU.out.2.1.right];exact hz
   have HZ:=Lib.hid hz;have HH:=Lib.hid (hasC_any u m B d a n v3 HU.out.1 (by have:=HU.out.2.2;have:=HN.out;omega) HRU.out z hcb);clear hgood ho1 ho2 hmo hro hb3 hz hcb hd;have c2:=HKc.out.c2;have c3:=HKc.out.c3;go_wp2_with fail;refine HH.out.mono ?_;rintro e v4 ⟨rfl,hb4⟩;have HKc:=Lib.hid (HKc.out.later hb4);have HRU:=Lib.hid (HRU.out.later hb4);have HRO:=Lib.hid (HO.out.2.1.later hb4);clear hb4 c2 c3
   cases z with
   | true=>
    have HCB:Hid (checkB t a n=false):=by
     have h:=HZ.out;rw[has_dl (Tr.rightB_iff.1 HT.out) HU.out.2.1]at h;unfold Hid checkB;rw[h,Bool.not_true,Bool.and_false]
    go_wp2_with fail;go_ret2;exact dots_none HCB.out HKc.out.below
   | false=>
    have HCB:Hid (checkB t a n=true):=by
     have h:=HZ.out;rw[has_dl (Tr.rightB_iff.1 HT.out) HU.out.2.1]at h;unfold Hid checkB;rw[h,HT.out,HD.out];rfl
    have HKx:=HKc;have HUN:=Lib.hid (unionC_any u (oneC a n) m mo B Ao d co v4 HU.out.1 HO.out.1 (by have:=HU.out.2.2;have:=HN.out;omega) (by have:=HO.out.2.2;omega) HRU.out HRO.out HU.out.2.1.right (right_oneC HD.out));go_wp2_with fail;refine HUN.out.mono ?_;rintro e v5 ⟨v,k,A',c',rfl,hv1,hvp,hk,how,hb5⟩;have HKc:=Lib.hid (HKx.out.later hb5);have HV:=Lib.hid (And.intro hv1.out (And.intro hvp.out (And.intro hk how.out)));clear hv1 hvp hk how hb5 HUN HH HOF;go_wp2_with fail;go_ret2;exact⟨v,0,k,c',A',rfl,Lib.hid (And.intro HV.out.1 ((RO.of_own HV.out.2.2.2).mono fun b hb _=>Nat.le_trans (HKx.out.below.size) hb.1)),Lib.hid (And.intro (fun _=>⟨rfl,u,HU.out.2.1,HV.out.2.1,by have:=HU.out.2.2;have:=HO.out.2.2;have:=HV.out.2.2.1;omega⟩) (fun h=>by rw[HCB.out]at h;cases h)),HKc.out.below⟩
  ·have HCB:Hid (checkB t a n=false):=by
    unfold Hid checkB
    cases hd:Dt.rightB a n with
    | false=>rw[Bool.and_false];rfl
    | true=>exact absurd (fun x hx=>by rw[List.mem_singleton.1 hx];exact hd) hno
   have HKc:=Lib.hid (HKd.out.later hb3);clear hno hb3;go_wp2_with fail;go_ret2;exact dots_none HCB.out HKc.out.below
end Cs
end Go.Proofs.YtgeafpaognhokaaGreat
set_option maxRecDepth 100000
set_option maxHeartbeats 4000000
namespace Go.Proofs.YtgeafpaognhokaaGreat
open Go.ChangeShapes Go.WideShapes Go.ChangeAt Go.RowKit
namespace Cs
open Tr Cx Sp Rw Classical
theorem boxTDC (w:World) (Ae Ak:Option Addr) (ne nk ce ck:Nat) (a n:Int):∃ (W:World) (p q r:Nat),Hid (W=((w.alloc (.cells #[.slice Ae ne ce,.slice Ak nk ck] 35)).alloc (.cells #[.int .i64 a,.int .i64 n] 37)).alloc (.cells #[.slice none 0 0,.slice none 0 0,.slice none 0 0] 42))∧Hid (p=w.heap.size)∧Hid (q=p+1)∧Hid (r=p+1+1)∧Hid (Kept [(⟨p,0,none⟩,.slice Ae ne ce),(⟨p,1,none⟩,.slice Ak nk ck),(⟨q,0,none⟩,.int .i64 a),(⟨q,1,none⟩,.int .i64 n)] w W)∧Hid (Kept [(⟨r,0,none⟩,.slice none 0 0),(⟨r,1,none⟩,.slice none 0 0),(⟨r,2,none⟩,.slice none 0 0)] w W)∧Hid (Free r W):=by
 refine⟨_,_,_,_,rfl,rfl,rfl,rfl,?_,?_,⟨by simp,fun j=>by go_simp⟩⟩
 ·have h0:=Kept.nil_of (box3_below w #[.slice Ae ne ce,.slice Ak nk ck] #[.int .i64 a,.int .i64 n] #[.slice none 0 0,.slice none 0 0,.slice none 0 0] 35 37 42)
  refine (((h0.cons_of ?_).cons_of ?_).cons_of ?_).cons_of ?_ <;> go_simp
 ·have h0:=Kept.nil_of (box3_below w #[.slice Ae ne ce,.slice Ak nk ck] #[.int .i64 a,.int .i64 n] #[.slice none 0 0,.slice none 0 0,.slice none 0 0] 35 37 42)
  refine ((h0.cons_of ?_).cons_of ?_).cons_of ?_ <;> go_simp
def DeltaIs (lo:Nat) (ok:Bool) (er:Int) (x:T) (l:List (Int×Int)) (a n:Int) (N:Nat) (w:World) (e:Ending) (w':World):Prop:=∃ (k:K) (z:Int) (Ae:Option Addr) (ne ce:Nat) (Ak:Option Addr) (nk ck:Nat) (Ca:Option Addr) (na ca9:Nat),e = .returned (.tuple #[.agg #[.slice Ae ne ce,.slice Ak nk ck,.slice Ca na ca9],.int .i64 z])∧Hid (OwC w' lo k Ae ne ce Ak nk ck Ca na ca9)∧Hid ((ok=true→z=0∧k.1=x∧na≤N∧∃ u,OfC l u∧PutC uniF u (oneC a n) k.2)∧(ok=false→z=er∧k=noneK))∧Below w.heap.size w w'
theorem cells3 {w:World} {r:Nat} {a b c:Value} : (((w.setCell ⟨r,0,none⟩ a).setCell ⟨r,1,none⟩ b).setCell ⟨r,2,none⟩ c).heap.size=w.heap.size:=by simp[World.setCell]
theorem cells3_at {w:World} {r:Nat} {a b c:Value} (g:Nat) (h:g≠r):(((w.setCell ⟨r,0,none⟩ a).setCell ⟨r,1,none⟩ b).setCell ⟨r,2,none⟩ c).heap[g]?=w.heap[g]?:=
 ((Below.heap_setCell _ ⟨r,2,none⟩ _ g h).trans (Below.heap_setCell _ ⟨r,1,none⟩ _ g h)).trans (Below.heap_setCell _ ⟨r,0,none⟩ _ g h)
theorem delta_any (t:T) (Ae Ak:Option Addr) (ne nk ce ck:Nat) (a n:Int) (es:List E) (P:Option Addr) (pn pc:Nat) (lo:Nat) (w:World) (hl:LenT reachBytes t) (hn:nodes t≤1000) (hr:RdT w w.heap.size t ⟨Ae,ne,ce⟩ ⟨Ak,nk,ck⟩) (hlo:lo≤w.heap.size) (hp:es.length=pn) (hP:RO w (fun b=>lo≤b) 4 P pn pc (entsC es)) :
  Calls Tryz.prog 139 #[.agg #[.slice Ae ne ce,.slice Ak nk ck],.agg #[.int .i64 a,.int .i64 n],.slice P pn pc] w (DeltaIs lo (checkB t a n) 1 (.mk es []) (dl t) a n (4*nodes t+4) w):=by
 obtain⟨W,p,q,r,HW,HP,HQ,HR0,HKc,HKR,HFR⟩:=boxTDC w Ae Ak ne nk ce ck a n
 have hwr:w.heap.size≤r:=by have:=HP.out;have:=HR0.out;omega
 have HR:=Lib.hid (RdT.more HKc.out.below.size _ (RdT.below hr HKc.out.below));have HE:Hid (RO W (fun b=>lo≤b∧b<w.heap.size) 4 P pn pc (entsC es)):=(hP.mono fun b hb hlt=>And.intro hb hlt).keep HKc.out.below.size fun b _ hlt=>HKc.out.below.block b hlt;have HL:=Lib.hid (And.intro hl (And.intro hn hp));clear hr hl hn hp hP;obtain⟨c0,c1,c2,c3,-⟩:=HKc.out.cj;have HD:=Lib.hid (fdots_any t Ae Ak ne nk ce ck a n W HL.out.1 HL.out.2.1 HR.out);go_enter Tryz.func139,Tryz.ntmps139;go_wp2_with fail;rw[← HP.out,← HW.out]
 try rw[← HR0.out]
 try rw[← HQ.out]
 refine HD.out.mono ?_;rintro e v1 ⟨v,z,k,c,A,rfl,hv,hz,hb9⟩;have hrW:r<W.heap.size∧w.heap.size≤W.heap.size:=⟨HFR.out.1,HKc.out.below.size⟩;have HKc:=Lib.hid (HKc.out.later hb9);have HKR:=Lib.hid (HKR.out.later hb9);have HFR:=Lib.hid (HFR.out.later hb9);have HE:=Lib.hid (HE.out.keep hb9.size fun b _ hlt=>hb9.block b hlt);have HV:=Lib.hid hv.out;have HZ:=Lib.hid hz.out;have HRW:=Lib.hid hrW;clear hb9 c0 c1 c2 c3 hv hz hrW HD;obtain⟨z0,z1,z2,-⟩:=HKR.out.cj;have m0:=HFR.out.2 0;have m1:=HFR.out.2 1;have m2:=HFR.out.2 2
 cases ok:checkB t a n with
 | false=>
  have HCB:=Lib.hid ok;obtain⟨rfl,rfl⟩:=HZ.out.2 ok;obtain⟨W9,hW9⟩:∃ W,W=((v1.setCell ⟨r,0,none⟩ (.slice none 0 0)).setCell ⟨r,1,none⟩ (.slice none 0 0)).setCell ⟨r,2,none⟩ (.slice none 0 0):=⟨_,rfl⟩
  have HB9:Hid (Below w.heap.size w W9):=by
   unfold Hid;rw[hW9];exact ((HKc.out.below.setCell (p:=⟨r,0,none⟩) hwr _).setCell (p:=⟨r,1,none⟩) hwr _).setCell (p:=⟨r,2,none⟩) hwr _
  have l0:W9.cell? ⟨r,0,none⟩=some (.slice none 0 0):=by rw[hW9];go_simp
  have l1:W9.cell? ⟨r,1,none⟩=some (.slice none 0 0):=by rw[hW9];go_simp
  have l2:W9.cell? ⟨r,2,none⟩=some (.slice none 0 0):=by rw[hW9];go_simp
  have HW9:=Lib.hid hW9;clear hW9 ok;go_wp2_with fail;rw[← HW9.out];refine bodyPost_ret (v:=.tuple #[.agg #[.slice none 0 0,.slice none 0 0,.slice none 0 0],.int .i64 1]) (by simp[results,Tryz.results139,go_sem,l0,l1,l2]) rfl ⟨noneK,1,none,0,0,none,0,0,none,0,0,rfl,OwC.no _ _,Lib.hid (And.intro (fun h=>by rw[HCB.out]at h;cases h) (fun _=>⟨rfl,rfl⟩)),HB9.out⟩
 | true=>
  have HCB:=Lib.hid ok;obtain⟨rfl,hu⟩:=HZ.out.1 ok;have HU:=Lib.hid hu;obtain⟨W9,hW9⟩:∃ W,W=((v1.setCell ⟨r,0,none⟩ (.slice P pn pc)).setCell ⟨r,1,none⟩ (.slice none 0 0)).setCell ⟨r,2,none⟩ (.slice A k c):=⟨_,rfl⟩
  have HB9:Hid (Below w.heap.size w W9):=by
   unfold Hid;rw[hW9];exact ((HKc.out.below.setCell (p:=⟨r,0,none⟩) hwr _).setCell (p:=⟨r,1,none⟩) hwr _).setCell (p:=⟨r,2,none⟩) hwr _
  have HO9:Hid (OwC W9 lo (.mk es [],v) P pn pc none 0 0 A k c):=by
   unfold Hid;rw[hW9];refine⟨?_,HV.out.1,(HV.out.2.keep (by rw[cells3];exact Nat.le_refl _) fun b hb _=>cells3_at b (by have:=HRW.out.1;omega)).mono fun b hb _=>Nat.le_trans hlo (Nat.le_trans HRW.out.2 hb)⟩;rw[rdO_mk];exact⟨HL.out.2.2,(HE.out.keep (by rw[cells3];exact Nat.le_refl _) fun b hb _=>cells3_at b (by have:=hb.2;omega)).mono fun b hb _=>hb.1,rfl,[],RO.nil _ _ _ _ _,fun i hi=>by simp at hi⟩
  have l0:W9.cell? ⟨r,0,none⟩=some (.slice P pn pc):=by rw[hW9];go_simp
  have l1:W9.cell? ⟨r,1,none⟩=some (.slice none 0 0):=by rw[hW9];go_simp
  have l2:W9.cell? ⟨r,2,none⟩=some (.slice A k c):=by rw[hW9];go_simp
  have HW9:=Lib.hid hW9;clear hW9 ok hu;go_wp2_with fail;rw[← HW9.out];refine bodyPost_ret (v:=.tuple #[.agg #[.slice P pn pc,.slice none 0 0,.slice A k c],.int .i64 0]) (by simp[results,Tryz.results139,go_sem,l0,l1,l2]) rfl ⟨(.mk es [],v),0,P,pn,pc,none,0,0,A,k,c,rfl,HO9.out,Lib.hid (And.intro (fun _=>⟨rfl,rfl,by obtain⟨u,_,_,h⟩:=HU.out;exact h,by obtain⟨u,h1,h2,_⟩:=HU.out;exact⟨u,h1,h2⟩⟩) (fun h=>by rw[HCB.out]at h;cases h)),HB9.out⟩
theorem enable_any (t:T) (Ae Ak:Option Addr) (ne nk ce ck:Nat) (a n:Int) (w:World) (hl:LenT reachBytes t) (hn:nodes t≤1000) (hr:RdT w w.heap.size t ⟨Ae,ne,ce⟩ ⟨Ak,nk,ck⟩) :
  Calls Tryz.prog 93 #[.agg #[.slice Ae ne ce,.slice Ak nk ck],.agg #[.int .i64 a,.int .i64 n]] w (DeltaIs w.heap.size (checkB t a n) 1 (oneT ⟨a,n,⟨#[]⟩,0⟩) (dl t) a n (4*nodes t+4) w):=by
 obtain⟨W,p,q,r,HW,HP,HQ,HR0,HKc,HKR,HFR⟩:=boxTDC w Ae Ak ne nk ce ck a n
 have hwr:w.heap.size≤r:=by have:=HP.out;have:=HR0.out;omega
 have hsz:W.heap.size=r+1:=by rw[HW.out];simp;have:=HP.out;have:=HR0.out;omega
 obtain⟨g,hg⟩:∃ g,g=r+1:=⟨_,rfl⟩;obtain⟨W1,hW1⟩:∃ W1,W1=W.alloc (.cells #[.int .i64 a,.int .i64 n,.string ⟨#[]⟩,.int .i64 0] 97):=⟨_,rfl⟩
 have hb1:Below W.heap.size W W1:=by rw[hW1];exact Dt.box_below _ _ _
 have hrg:r<g:=by omega
 have HE:Hid (RO W1 (fun b=>g≤b) 4 (some ⟨g,0,none⟩) 1 1 (entsC [⟨a,n,⟨#[]⟩,0⟩])):=by
  refine⟨rfl,Nat.le_refl _,fun u hu=>?_,fun _=>⟨_,_,rfl,Nat.le_refl _,by rw[hW1];simp;omega,fun j=>by rw[hW1,hg,← hsz];go_simp,fun j u hu=>?_⟩⟩
  ·simp[entsC,entC]at hu
   rcases hu with rfl | rfl | rfl | rfl <;> rfl
  ·rw[Nat.zero_add,hW1,hg,← hsz,cell_of_row _ _ j _ _ (0,0) (heap_alloc_new _ _)]
   simpa [entsC,entC] using hu
 have HKd:=Lib.hid (HKc.out.later hb1);have HKR:=Lib.hid (HKR.out.later hb1);have HFR:=Lib.hid (HFR.out.later hb1);have HR:=Lib.hid (RdT.more HKd.out.below.size _ (RdT.below hr HKd.out.below));have HL:=Lib.hid (And.intro hl hn)
 have hg1:g≤W1.heap.size:=by rw[hg,← hsz];exact hb1.size
 have HD:=Lib.hid (delta_any t Ae Ak ne nk ce ck a n [⟨a,n,⟨#[]⟩,0⟩] (some ⟨g,0,none⟩) 1 1 g W1 HL.out.1 HL.out.2 HR.out hg1 rfl HE.out);have Hg:=Lib.hid hg;have HW1:=Lib.hid hW1;clear hr hl hn hg hW1 hb1 hg1 hsz;obtain⟨c0,c1,c2,c3,-⟩:=HKc.out.cj;go_enter Tryz.func93,Tryz.ntmps93;go_wp2_with fail;rw[← HP.out,← HW.out]
 try rw[← HR0.out]
 try rw[← HQ.out]
 rw[← Hg.out,← HW1.out];refine HD.out.mono ?_;rintro e v1 ⟨k,z,Re,rn,rc,Rk,rm,rd,Rc,rq,re,rfl,how,hz,hb9⟩;have HKc:=Lib.hid (HKd.out.later hb9);have HKR:=Lib.hid (HKR.out.later hb9);have HFR:=Lib.hid (HFR.out.later hb9);have HOW:=Lib.hid how.out;have HZ:=Lib.hid hz.out;clear hb9 c0 c1 c2 c3 how hz HD HKd;obtain⟨z0,z1,z2,-⟩:=HKR.out.cj;have m0:=HFR.out.2 0;have m1:=HFR.out.2 1;have m2:=HFR.out.2 2;obtain⟨W9,hW9⟩:∃ W,W=((v1.setCell ⟨r,0,none⟩ (.slice Re rn rc)).setCell ⟨r,1,none⟩ (.slice Rk rm rd)).setCell ⟨r,2,none⟩ (.slice Rc rq re):=⟨_,rfl⟩
 have HB9:Hid (Below w.heap.size w W9):=by
  unfold Hid;rw[hW9];exact ((HKc.out.below.setCell (p:=⟨r,0,none⟩) hwr _).setCell (p:=⟨r,1,none⟩) hwr _).setCell (p:=⟨r,2,none⟩) hwr _
 have HO9:Hid (OwC W9 w.heap.size k Re rn rc Rk rm rd Rc rq re):=by
  unfold Hid;rw[hW9];exact (HOW.out.set3 hrg _ _ _).mono (by omega)
 have l0:W9.cell? ⟨r,0,none⟩=some (.slice Re rn rc):=by rw[hW9];go_simp
 have l1:W9.cell? ⟨r,1,none⟩=some (.slice Rk rm rd):=by rw[hW9];go_simp
 have l2:W9.cell? ⟨r,2,none⟩=some (.slice Rc rq re):=by rw[hW9];go_simp
 have HW9:=Lib.hid hW9;clear hW9;go_wp2_with fail;rw[← HW9.out];refine bodyPost_ret (v:=.tuple #[.agg #[.slice Re rn rc,.slice Rk rm rd,.slice Rc rq re],.int .i64 z]) (by simp[results,Tryz.results93,go_sem,l0,l1,l2]) rfl ⟨k,z,Re,rn,rc,Rk,rm,rd,Rc,rq,re,rfl,HO9.out,HZ.out,HB9.out⟩
theorem disable_any (t:T) (Ae Ak:Option Addr) (ne nk ce ck:Nat) (a n:Int) (w:World) (hl:LenT reachBytes t) (hn:nodes t≤1000) (hr:RdT w w.heap.size t ⟨Ae,ne,ce⟩ ⟨Ak,nk,ck⟩) :
  Calls Tryz.prog 94 #[.agg #[.slice Ae ne ce,.slice Ak nk ck],.agg #[.int .i64 a,.int .i64 n]] w (DeltaIs w.heap.size (checkB t a n) 1 none_ (dl t) a n (4*nodes t+4) w):=by
 obtain⟨W,p,q,r,HW,HP,HQ,HR0,HKc,HKR,HFR⟩:=boxTDC w Ae Ak ne nk ce ck a n
 have hwr:w.heap.size≤r:=by have:=HP.out;have:=HR0.out;omega
 have hrg:r<W.heap.size:=HFR.out.1;have HR:=Lib.hid (RdT.more HKc.out.below.size _ (RdT.below hr HKc.out.below));have HL:=Lib.hid (And.intro hl hn);have HD:=Lib.hid (delta_any t Ae Ak ne nk ce ck a n [] none 0 0 W.heap.size W HL.out.1 HL.out.2 HR.out (Nat.le_refl _) rfl (RO.nil _ _ _ _ _));have HRG:=Lib.hid (And.intro hrg HKc.out.below.size);clear hr hl hn hrg;obtain⟨c0,c1,c2,c3,-⟩:=HKc.out.cj;go_enter Tryz.func94,Tryz.ntmps94;go_wp2_with fail;rw[← HP.out,← HW.out]
 try rw[← HR0.out]
 try rw[← HQ.out]
 refine HD.out.mono ?_;rintro e v1 ⟨k,z,Re,rn,rc,Rk,rm,rd,Rc,rq,re,rfl,how,hz,hb9⟩;have HKc:=Lib.hid (HKc.out.later hb9);have HKR:=Lib.hid (HKR.out.later hb9);have HFR:=Lib.hid (HFR.out.later hb9);have HOW:=Lib.hid how.out;have HZ:=Lib.hid hz.out;clear hb9 c0 c1 c2 c3 how hz HD;obtain⟨z0,z1,z2,-⟩:=HKR.out.cj;have m0:=HFR.out.2 0;have m1:=HFR.out.2 1;have m2:=HFR.out.2 2;obtain⟨W9,hW9⟩:∃ W,W=((v1.setCell ⟨r,0,none⟩ (.slice Re rn rc)).setCell ⟨r,1,none⟩ (.slice Rk rm rd)).setCell ⟨r,2,none⟩ (.slice Rc rq re):=⟨_,rfl⟩
 have HB9:Hid (Below w.heap.size w W9):=by
  unfold Hid;rw[hW9];exact ((HKc.out.below.setCell (p:=⟨r,0,none⟩) hwr _).setCell (p:=⟨r,1,none⟩) hwr _).setCell (p:=⟨r,2,none⟩) hwr _
 have HO9:Hid (OwC W9 w.heap.size k Re rn rc Rk rm rd Rc rq re):=by
  unfold Hid;rw[hW9];exact (HOW.out.set3 HRG.out.1 _ _ _).mono HRG.out.2
 have l0:W9.cell? ⟨r,0,none⟩=some (.slice Re rn rc):=by rw[hW9];go_simp
 have l1:W9.cell? ⟨r,1,none⟩=some (.slice Rk rm rd):=by rw[hW9];go_simp
 have l2:W9.cell? ⟨r,2,none⟩=some (.slice Rc rq re):=by rw[hW9];go_simp
 have HW9:=Lib.hid hW9;clear hW9;go_wp2_with fail;rw[← HW9.out];refine bodyPost_ret (v:=.tuple #[.agg #[.slice Re rn rc,.slice Rk rm rd,.slice Rc rq re],.int .i64 z]) (by simp[results,Tryz.results94,go_sem,l0,l1,l2]) rfl ⟨k,z,Re,rn,rc,Rk,rm,rd,Rc,rq,re,rfl,HO9.out,HZ.out,HB9.out⟩
theorem on_any (t:T) (Ae Ak:Option Addr) (ne nk ce ck:Nat) (w:World) (z:Bool) (hz:(Tr.rightB 5 t&&decide (0<ne))=z) (hl:LenT reachBytes t) (hr:RdT w w.heap.size t ⟨Ae,ne,ce⟩ ⟨Ak,nk,ck⟩) :
  Calls Tryz.prog 113 #[.agg #[.slice Ae ne ce,.slice Ak nk ck]] w fun e w'=>e = .returned (.bool z)∧Below w.heap.size w w':=by
 obtain⟨p,hp⟩:∃ p,p=w.heap.size:=⟨_,rfl⟩;have HKc:=Lib.hid (tree_box w Ae Ak ne nk ce ck);rw[← hp]at HKc;obtain⟨W,hW⟩:∃ W,W=w.alloc (.cells #[.slice Ae ne ce,.slice Ak nk ck] 35):=⟨_,rfl⟩;rw[← hW]at HKc;have HP:=Lib.hid hp;have HW:=Lib.hid hW;have HR:=Lib.hid (RdT.more HKc.out.below.size _ (RdT.below hr HKc.out.below));have HL:=Lib.hid hl;have HZ:=Lib.hid hz;have c0:=HKc.out.c0;have c1:=HKc.out.c1;clear hp hW hr hl hz;obtain⟨y,hy⟩:∃ y,Tr.rightB 5 t=y:=⟨_,rfl⟩;rw[hy]at HZ;have HC:=Lib.hid (rightT_any t Ae Ak ne nk ce ck W HL.out HR.out);rw[hy]at HC;clear hy;go_enter Tryz.func113,Tryz.ntmps113;go_wp2_with fail;rw[← HP.out,← HW.out];refine HC.out.mono ?_;rintro e v1 ⟨rfl,hb9⟩;have HKc:=Lib.hid (HKc.out.later hb9);clear hb9 c0 c1;have c0:=HKc.out.c0
 have c1:=HKc.out.c1
 cases y with
 | false=>
  obtain rfl:z=false:=HZ.out.symm;go_wp2_with fail;go_ret;exact⟨rfl,HKc.out.below⟩
 | true=>
  by_cases h:0<ne
  ·obtain rfl:z=true:=by have h2:=HZ.out;rw[decide_eq_true h]at h2;exact h2.symm
   have f1:decide ((0:Int)<(ne:Int))=true:=decide_eq_true (by omega);go_wp2_with fail;go_ret;exact⟨by first | rfl | simp[f1],HKc.out.below⟩
  ·obtain rfl:z=false:=by have h2:=HZ.out;rw[decide_eq_false h]at h2;exact h2.symm
   have f1:decide ((0:Int)<(ne:Int))=false:=decide_eq_false (by omega);go_wp2_with fail;go_ret;exact⟨by first | rfl | simp[f1],HKc.out.below⟩
end Cs
end Go.Proofs.YtgeafpaognhokaaGreat
namespace Go.Proofs.YtgeafpaognhokaaGreat
open Go.ChangeShapes Go.WideShapes Go.ChangeAt Go.RowKit
namespace Cs
open Tr Cx Sp Rw Classical
theorem nodes_wrap (t:T):∀ p:List ByteArray,nodes (wrapT t p)=nodes t+p.length
 | []=>rfl
 | k::p=>by
  show nodes (.mk [] [(k,wrapT t p)])=_;rw[nodes_mk,List.map_cons,List.map_nil,List.sum_cons,List.sum_nil,nodes_wrap t p];simp;omega
theorem some_of {t:T} (ht:RightT 5 t) {Ae Ak:Option Addr} {ne nk ce ck:Nat} {w:World} (hl:LenT reachBytes t) (hn:nodes t≤1000) (hr:RdT w w.heap.size t ⟨Ae,ne,ce⟩ ⟨Ak,nk,ck⟩):∃ u,OfC (dl t) u∧u.length≤4*nodes t:=by
 obtain⟨_,_,u,q,_,_,_,h1,h2,h3,_⟩:=Calls.some (dotsT_any t Ae Ak ne nk ce ck w (Tr.rightB_iff.2 ht) hl hn hr);exact⟨u,h2.out,by rw[h1.out];exact h3⟩
theorem boxTC (w:World) (Ae Ak:Option Addr) (ne nk ce ck:Nat):∃ (W:World) (p r:Nat),Hid (W=(w.alloc (.cells #[.slice Ae ne ce,.slice Ak nk ck] 35)).alloc (.cells #[.slice none 0 0,.slice none 0 0,.slice none 0 0] 42))∧Hid (p=w.heap.size)∧Hid (r=p+1)∧Hid (Kept [(⟨p,0,none⟩,.slice Ae ne ce),(⟨p,1,none⟩,.slice Ak nk ck)] w W)∧Hid (Kept [(⟨r,0,none⟩,.slice none 0 0),(⟨r,1,none⟩,.slice none 0 0),(⟨r,2,none⟩,.slice none 0 0)] w W)∧Hid (Free r W):=by
 have hb:Below w.heap.size w ((w.alloc (.cells #[.slice Ae ne ce,.slice Ak nk ck] 35)).alloc (.cells #[.slice none 0 0,.slice none 0 0,.slice none 0 0] 42)):=((Below.refl _ _).alloc (Nat.le_refl _) _).alloc (by simp) _;refine⟨_,_,_,rfl,rfl,rfl,?_,?_,⟨by simp,fun j=>by go_simp⟩⟩
 ·have h0:=Kept.nil_of hb
  refine (h0.cons_of ?_).cons_of ?_ <;> go_simp
 ·have h0:=Kept.nil_of hb
  refine ((h0.cons_of ?_).cons_of ?_).cons_of ?_ <;> go_simp
set_option maxRecDepth 100000 in
set_option maxHeartbeats 4000000 in
theorem refknown_any (t:T) (Ae Ak:Option Addr) (ne nk ce ck:Nat) (u:List S3) (m:Nat) (w:World) (ht:RightT 5 t) (hn:nodes t≤1000) (hr:RdT w w.heap.size t ⟨Ae,ne,ce⟩ ⟨Ak,nk,ck⟩) (hu:OfC (dl t) u) (hm:u.length=m) (hm8:m≤800000) :
  Calls Tryz.prog 30 #[.agg #[.slice Ae ne ce,.slice Ak nk ck]] w fun e w'=>∃ B d,e = .returned (.agg #[.slice Ae ne ce,.slice Ak nk ck,.slice B m d])∧RO w' (fun b=>w.heap.size≤b) 3 B m d (spsC u)∧Below w.heap.size w w':=by
 obtain⟨W,p,r,HW,HP,HR0,HKc,HKR,HFR⟩:=boxTC w Ae Ak ne nk ce ck
 have hwr:w.heap.size≤r:=by have:=HP.out;have:=HR0.out;omega
 have hpr:p<r:=by have:=HR0.out;omega
 have HR:=Lib.hid hr;have HN:=Lib.hid (And.intro hn ht);have HU:=Lib.hid (And.intro hu (And.intro hm hm8));clear hr hn ht hu hm hm8;go_enter Tryz.func30,Tryz.ntmps30;go_wp2_with fail;rw[← HP.out,← HW.out]
 try rw[← HR0.out]
 refine wp_region_held_drew (S:=Conj _) (by kernel_rfl) HKc.out.drew.cj (fun hHeld=>?_);obtain⟨w1,hw1⟩:∃ v,v=W.drew:=⟨_,rfl⟩
 have hb9:Below W.heap.size W w1:=by rw[hw1];exact (Below.refl _ _).drew
 have HKc:=Lib.hid (HKc.out.later hb9);have HKR:=Lib.hid (HKR.out.later hb9);have HFR:=Lib.hid (HFR.out.later hb9);rw[← hw1]at hHeld ⊢;clear hw1 hb9;refine Tk 0 3 ?_;refine Tk 1 4 ?_;refine Tc 2 (fun K hK=>?_);go_simp;(go_at_call 72;refine (refdots_own t Ae Ak ne nk ce ck w1 HN.out.1 (RdT.more HKc.out.below.size _ (RdT.below HR.out HKc.out.below)) (good_dl HN.out.2) u HU.out.1 m HU.out.2.1 HU.out.2.2).mono ?_);rintro e w2 ⟨B,d,rfl,ho,hb9⟩;have HO:Hid (RO w2 (fun b=>r<b) 3 B m d (spsC u)):=(RO.of_own ho).mono fun b hb _=>Nat.lt_of_lt_of_le HFR.out.1 hb.1;have HKc:=Lib.hid (HKc.out.later hb9);have HKR:=Lib.hid (HKR.out.later hb9);have HFR:=Lib.hid (HFR.out.later hb9);clear ho hb9;obtain⟨z0,z1,z2,-⟩:=HKR.out.cj;have m0:=HFR.out.2 0;have m1:=HFR.out.2 1;have m2:=HFR.out.2 2;clear hHeld;refine Th hK ?_ (fun hHeld=>?_)
 ·exact HKc.out.cj
 clear hK K;refine Tk 3 6 ?_;refine Tc 4 (fun K hK=>?_);go_simp;refine Th hK ?_ (fun hHeld2=>?_)
 ·have h9:=(((HKc.out).set (a:=⟨r,0,none⟩) hwr (fun x hx=>by simp at hx;rcases hx with rfl | rfl <;> (dsimp only;omega)) (.slice Ae ne ce)).set (a:=⟨r,1,none⟩) hwr (fun x hx=>by simp at hx;rcases hx with rfl | rfl <;> (dsimp only;omega)) (.slice Ak nk ck)).set (a:=⟨r,2,none⟩) hwr (fun x hx=>by simp at hx;rcases hx with rfl | rfl <;> (dsimp only;omega)) (.slice B m d)
  exact h9.cj
 clear hK K hHeld;have hHeld:=hHeld2;clear hHeld2;refine wpAnyH_done (by kernel_rfl) ?_ _;clear hHeld;obtain⟨W9,hW9⟩:∃ W,W=((w2.setCell ⟨r,0,none⟩ (.slice Ae ne ce)).setCell ⟨r,1,none⟩ (.slice Ak nk ck)).setCell ⟨r,2,none⟩ (.slice B m d):=⟨_,rfl⟩
 have HB9:Hid (Below w.heap.size w W9):=by
  unfold Hid;rw[hW9];exact ((HKc.out.below.setCell (p:=⟨r,0,none⟩) hwr _).setCell (p:=⟨r,1,none⟩) hwr _).setCell (p:=⟨r,2,none⟩) hwr _
 have HO9:Hid (RO W9 (fun b=>w.heap.size≤b) 3 B m d (spsC u)):=by
  unfold Hid;rw[hW9];exact (HO.out.keep (by rw[cells3];exact Nat.le_refl _) (fun b hb _=>cells3_at b (by omega))).mono fun b hb _=>Nat.le_trans hwr (Nat.le_of_lt hb)
 have l0:W9.cell? ⟨r,0,none⟩=some (.slice Ae ne ce):=by rw[hW9];go_simp
 have l1:W9.cell? ⟨r,1,none⟩=some (.slice Ak nk ck):=by rw[hW9];go_simp
 have l2:W9.cell? ⟨r,2,none⟩=some (.slice B m d):=by rw[hW9];go_simp
 clear z0 z1 z2 m0 m1 m2;rw[← hW9];clear hW9;go_wp2_with fail;refine bodyPost_ret (v:=.agg #[.slice Ae ne ce,.slice Ak nk ck,.slice B m d]) (by simp[results,Tryz.results30,go_sem,l0,l1,l2]) rfl ⟨B,d,rfl,HO9.out,HB9.out⟩
end Cs
end Go.Proofs.YtgeafpaognhokaaGreat
namespace Go.Proofs.YtgeafpaognhokaaGreat
open Go.ChangeShapes Go.WideShapes Go.ChangeAt Go.RowKit
namespace Cs
open Tr Cx Sp Rw Classical
end Cs
end Go.Proofs.YtgeafpaognhokaaGreat
namespace Go.Proofs.YtgeafpaognhokaaGreat
open Go.ChangeShapes Go.WideShapes Go.ChangeAt Go.RowKit
namespace Cs
open Tr Cx Sp Rw Classical
set_option maxRecDepth 100000 in
set_option maxHeartbeats 4000000 in
theorem fcheck_any (t:T) (Ae Ak:Option Addr) (ne nk ce ck:Nat) (a n:Int) (w:World) (z:Bool) (hz:checkB t a n=z) (hl:LenT reachBytes t) (hn:nodes t≤1000) (hr:RdT w w.heap.size t ⟨Ae,ne,ce⟩ ⟨Ak,nk,ck⟩) :
  Calls Tryz.prog 47 #[.agg #[.slice Ae ne ce,.slice Ak nk ck],.agg #[.int .i64 a,.int .i64 n]] w fun e w'=>e = .returned (.int .i64 (if z=true then 0 else 1))∧Below w.heap.size w w':=by
 obtain⟨W,p,q,HW,HP,HQ,HKc⟩:=boxTD w Ae Ak ne nk ce ck a n;have HD:=Lib.hid (fdots_any t Ae Ak ne nk ce ck a n W hl hn (RdT.more HKc.out.below.size _ (RdT.below hr HKc.out.below)));have HZ:=Lib.hid hz;clear hl hn hr hz;obtain⟨c0,c1,c2,c3,-⟩:=HKc.out.cj
 obtain⟨x,hx⟩:∃ x:Int,(if z=true then 0 else 1)=x:=⟨_,rfl⟩
 rw[hx];have HX:=Lib.hid hx;clear hx;go_enter Tryz.func47,Tryz.ntmps47;go_wp2_with fail;rw[← HP.out,← HW.out]
 try rw[← HQ.out]
 refine HD.out.mono ?_;rintro e v1 ⟨v,z1,k,c,A,rfl,hv,hz,hb9⟩;have HKc:=Lib.hid (HKc.out.later hb9)
 obtain rfl:z1=x:=by
  rw[← HX.out,← HZ.out]
  cases h:checkB t a n with
  | false=>rw[(hz.out.2 h).1];rfl
  | true=>rw[(hz.out.1 h).1];rfl
 clear hb9 hv hz HD c0 c1 c2 c3;go_wp2_with fail;go_ret;exact⟨rfl,HKc.out.below⟩
end Cs
end Go.Proofs.YtgeafpaognhokaaGreat
namespace Go.Proofs.YtgeafpaognhokaaGreat
open Go.ChangeShapes Go.WideShapes Go.ChangeAt Go.RowKit
namespace Cs
open Tr Cx Sp Rw Classical
theorem RdP.of_own {w:World} {lo:Nat} {k:K} {Ae Ak Ca:Option Addr} {ne ce nk ck na ca9:Nat} (h:OwC w lo k Ae ne ce Ak nk ck Ca na ca9):RdP w ⟨k,⟨Ae,ne,ce⟩,⟨Ak,nk,ck⟩,⟨Ca,na,ca9⟩⟩:=⟨h.rdT,h.len,h.ctx.rd⟩
theorem RdP.zero (w:World):RdP w ⟨noneK,⟨none,0,0⟩,⟨none,0,0⟩,⟨none,0,0⟩⟩:=⟨RdT.none _ _ _ _,rfl,Rd.nil _⟩
end Cs
end Go.Proofs.YtgeafpaognhokaaGreat
namespace Go.Proofs.YtgeafpaognhokaaGreat
open Go.ChangeShapes Go.WideShapes Go.ChangeAt Go.RowKit
namespace Cs
open Tr Cx Sp Rw Classical
theorem RdP.one_len {w:World} {p:CP} {e:E} (h:RdP w p) (hk:p.k.1=oneT e):p.e.n=1:=by
 have h1:=h.tree;rw[hk]at h1;exact (rd_lens (Ae:=p.e.A) (ne:=p.e.n) (ce:=p.e.c) (Ak:=p.d.A) (nk:=p.d.n) (ck:=p.d.c) h1).1.symm
theorem flag_e {a n:Int} (h:Dt.rightB a n=true):RightE ⟨a,n,⟨#[]⟩,0⟩:=⟨h,by show ByteArray.size ⟨#[]⟩≤30;decide,by show (-1099511627776:Int)≤0;decide,by show (0:Int)≤1099511627776;decide⟩
theorem of_nil:OfC [] []:=⟨right_noneC,fun d n _=>by
 constructor
 ·intro h;cases h
 ·intro h;cases h⟩
theorem check_none:checkB none_ 1 1=true:=check_iff.2 ⟨RightT.none (d:=4),by decide,by unfold dl;rw[leaves_none];simp⟩
end Cs
end Go.Proofs.YtgeafpaognhokaaGreat
set_option maxRecDepth 100000
set_option maxHeartbeats 4000000
namespace Go.Proofs.YtgeafpaognhokaaGreat
open Go.ChangeShapes Go.WideShapes Go.ChangeAt Go.RowKit
namespace Cs
open Tr Cx Sp Rw Classical
noncomputable def mayB (t:T) (s:ByteArray) (a n:Int):Bool:=checkB t a n&&keyB s
theorem may_iff {t:T} {s:ByteArray} {a n:Int} : mayB t s a n=true↔checkB t a n=true∧KeyOk s:=by
 unfold mayB;rw[Bool.and_eq_true,keyB_iff]
theorem kid_check {t:T} {s:ByteArray} {a n:Int} (h:checkB t a n=true):checkB (kidAt t.ks s) a n=true:=by
 obtain⟨h1,h2,h3⟩:=check_iff.1 h;exact check_iff.2 ⟨kid_right h1 s,h2,fun h4=>h3 (kid_sub h1 h4)⟩
theorem nodes_kid_at (t:T) (s:ByteArray):nodes (kidAt t.ks s)≤nodes t:=by
 cases t
 exact nodes_kidAt _ _ _
theorem scheck_any (t:T) (Ae Ak:Option Addr) (ne nk ce ck:Nat) (s:ByteArray) (a n:Int) (w:World) (z:Bool) (hz:mayB t s a n=z) (hl:LenT reachBytes t) (hn:nodes t≤1000) (hr:RdT w w.heap.size t ⟨Ae,ne,ce⟩ ⟨Ak,nk,ck⟩) :
  Calls Tryz.prog 140 #[.agg #[.slice Ae ne ce,.slice Ak nk ck],.string s,.agg #[.int .i64 a,.int .i64 n]] w fun e w'=>e = .returned (.int .i64 (if z=true then 0 else 1))∧Below w.heap.size w w':=by
 obtain⟨W,p,q,HW,HP,HQ,HKc⟩:=boxTD w Ae Ak ne nk ce ck a n;obtain⟨y,hy⟩:∃ y,checkB t a n=y:=⟨_,rfl⟩;have HD:=Lib.hid (fcheck_any t Ae Ak ne nk ce ck a n W y hy hl hn (RdT.more HKc.out.below.size _ (RdT.below hr HKc.out.below)))
 have HZ:Hid ((y&&keyB s)=z):=by unfold Hid;rw[← hy];exact hz
 clear hl hn hr hz hy;obtain⟨c0,c1,c2,c3,-⟩:=HKc.out.cj
 cases y with
 | false=>
  obtain rfl:z=false:=by rw[← HZ.out];rfl
  go_enter Tryz.func140,Tryz.ntmps140;go_wp2_with fail;rw[← HP.out,← HW.out]
  try rw[← HQ.out]
  refine HD.out.mono ?_;rintro e v1 ⟨rfl,hb9⟩;have HKc:=Lib.hid (HKc.out.later hb9);clear hb9 HD c0 c1 c2 c3;go_wp2_with fail;go_ret;exact⟨rfl,HKc.out.below⟩
 | true=>
  have hzk:keyB s=z:=by rw[← HZ.out];rfl
  have HZK:=Lib.hid hzk;clear hzk
  by_cases h0:1≤s.size
  ·have f0:decide ((s.size:Int)<1)=false:=by simp;omega
   by_cases h1:s.size≤30
   ·have f1:decide ((30:Int)<(s.size:Int))=false:=by simp;omega
    obtain rfl:z=true:=by rw[← HZK.out];exact keyB_iff.2 ⟨h0,h1⟩
    go_enter Tryz.func140,Tryz.ntmps140;go_wp2_with fail;rw[← HP.out,← HW.out]
    try rw[← HQ.out]
    refine HD.out.mono ?_;rintro e v1 ⟨rfl,hb9⟩;have HKc:=Lib.hid (HKc.out.later hb9);clear hb9 HD c0 c1 c2 c3;go_wp2_with fail;go_ret;exact⟨rfl,HKc.out.below⟩
   ·have f1:decide ((30:Int)<(s.size:Int))=true:=by simp;omega
    obtain rfl:z=false:=by
     rw[← HZK.out]
     cases h:keyB s with
     | false=>rfl
     | true=>exact absurd (keyB_iff.1 h).2 h1
    go_enter Tryz.func140,Tryz.ntmps140;go_wp2_with fail;rw[← HP.out,← HW.out]
    try rw[← HQ.out]
    refine HD.out.mono ?_;rintro e v1 ⟨rfl,hb9⟩;have HKc:=Lib.hid (HKc.out.later hb9);clear hb9 HD c0 c1 c2 c3;go_wp2_with fail;go_ret;exact⟨rfl,HKc.out.below⟩
  ·have f0:decide ((s.size:Int)<1)=true:=by simp;omega
   obtain rfl:z=false:=by
    rw[← HZK.out]
    cases h:keyB s with
    | false=>rfl
    | true=>exact absurd (keyB_iff.1 h).1 h0
   go_enter Tryz.func140,Tryz.ntmps140;go_wp2_with fail;rw[← HP.out,← HW.out]
   try rw[← HQ.out]
   refine HD.out.mono ?_;rintro e v1 ⟨rfl,hb9⟩;have HKc:=Lib.hid (HKc.out.later hb9);clear hb9 HD c0 c1 c2 c3;go_wp2_with fail;go_ret;exact⟨rfl,HKc.out.below⟩
theorem sdel_any (t:T) (Ae Ak:Option Addr) (ne nk ce ck:Nat) (s:ByteArray) (a n:Int) (w:World) (hl:LenT reachBytes t) (hn:nodes t≤1000) (hr:RdT w w.heap.size t ⟨Ae,ne,ce⟩ ⟨Ak,nk,ck⟩) :
  Calls Tryz.prog 96 #[.agg #[.slice Ae ne ce,.slice Ak nk ck],.string s,.agg #[.int .i64 a,.int .i64 n]] w (DeltaIs w.heap.size (mayB t s a n) 1 none_ (dl (kidAt t.ks s)) a n (4*nodes t+4) w):=by
 obtain⟨W,p,q,r,HW,HP,HQ,HR0,HKc,HKR,HFR⟩:=boxTDC w Ae Ak ne nk ce ck a n
 have hwr:w.heap.size≤r:=by have:=HP.out;have:=HR0.out;omega
 have hpr:p<r:=by have:=HP.out;have:=HR0.out;omega
 have hqr:q<r:=by have:=HQ.out;have:=HR0.out;omega
 obtain⟨z,hz⟩:∃ z,mayB t s a n=z:=⟨_,rfl⟩;have HR:=Lib.hid (RdT.more HKc.out.below.size _ (RdT.below hr HKc.out.below));have HD:=Lib.hid (scheck_any t Ae Ak ne nk ce ck s a n W z hz hl hn HR.out);have HN:=Lib.hid (And.intro hl hn);have HMB:=Lib.hid hz;clear hl hn hr hz;obtain⟨c0,c1,c2,c3,-⟩:=HKc.out.cj;go_enter Tryz.func96,Tryz.ntmps96;go_wp2_with fail;rw[← HP.out,← HW.out]
 try rw[← HR0.out]
 try rw[← HQ.out]
 refine HD.out.mono ?_;rintro e v1 ⟨rfl,hb9⟩;have HKc:=Lib.hid (HKc.out.later hb9);have HKR:=Lib.hid (HKR.out.later hb9);have HFR:=Lib.hid (HFR.out.later hb9);have HR:=Lib.hid (RdT.later HR.out hb9);clear hb9 HD c0 c1 c2 c3
 cases z with
 | false=>
  obtain⟨z0,z1,z2,-⟩:=HKR.out.cj;have m0:=HFR.out.2 0;have m1:=HFR.out.2 1;have m2:=HFR.out.2 2;obtain⟨W9,hW9⟩:∃ W,W=((v1.setCell ⟨r,0,none⟩ (.slice none 0 0)).setCell ⟨r,1,none⟩ (.slice none 0 0)).setCell ⟨r,2,none⟩ (.slice none 0 0):=⟨_,rfl⟩
  have HB9:Hid (Below w.heap.size w W9):=by
   unfold Hid;rw[hW9];exact ((HKc.out.below.setCell (p:=⟨r,0,none⟩) hwr _).setCell (p:=⟨r,1,none⟩) hwr _).setCell (p:=⟨r,2,none⟩) hwr _
  have l0:W9.cell? ⟨r,0,none⟩=some (.slice none 0 0):=by rw[hW9];go_simp
  have l1:W9.cell? ⟨r,1,none⟩=some (.slice none 0 0):=by rw[hW9];go_simp
  have l2:W9.cell? ⟨r,2,none⟩=some (.slice none 0 0):=by rw[hW9];go_simp
  have HW9:=Lib.hid hW9;clear hW9;go_wp2_with fail;rw[← HW9.out];refine bodyPost_ret (v:=.tuple #[.agg #[.slice none 0 0,.slice none 0 0,.slice none 0 0],.int .i64 1]) (by simp[results,Tryz.results96,go_sem,l0,l1,l2]) rfl ⟨noneK,1,none,0,0,none,0,0,none,0,0,rfl,OwC.no _ _,Lib.hid (And.intro (fun h=>by rw[HMB.out]at h;cases h) (fun _=>⟨rfl,rfl⟩)),HB9.out⟩
 | true=>
  have HCB:Hid (checkB t a n=true):=(may_iff.1 HMB.out).1;have HT:Hid (Tr.rightB 5 t=true):=Tr.rightB_iff.2 (check_iff.1 HCB.out).1;obtain⟨c0,c1,c2,c3,-⟩:=HKc.out.cj;go_wp2_with fail;clear c0 c1 c2 c3;refine wp_region_held_drew (S:=Conj _) (by kernel_rfl) HKc.out.drew.cj (fun hHeld=>?_);obtain⟨w1,hw1⟩:∃ v,v=v1.drew:=⟨_,rfl⟩
  have hb9:Below v1.heap.size v1 w1:=by rw[hw1];exact (Below.refl _ _).drew
  have HKc:=Lib.hid (HKc.out.later hb9);have HKR:=Lib.hid (HKR.out.later hb9);have HFR:=Lib.hid (HFR.out.later hb9);have HR:=Lib.hid (RdT.later HR.out hb9);rw[← hw1]at hHeld ⊢;clear hw1 hb9;refine Tk 0 17 ?_;refine Tk 1 18 ?_;refine Tk 4 21 ?_;refine Tc 2 (fun K hK=>?_);go_simp;clear hHeld;refine Th hK ?_ (fun hHeld=>?_)
  ·exact (HKc.out.alloc _).cj
  clear hK K;obtain⟨g,hg⟩:∃ g,g=w1.heap.size:=⟨_,rfl⟩;obtain⟨w2,hw2⟩:∃ W,W=w1.alloc (.cells #[.string s] 9):=⟨_,rfl⟩
  have hb9:Below w1.heap.size w1 w2:=by rw[hw2];exact Dt.box_below _ _ _
  have HS:Hid (Rd w2 w2.heap.size 1 (some ⟨g,0,none⟩) 1 1 (strs [s])):=by unfold Hid;rw[hw2,hg];exact rd_one1 _ _
  have HKc:=Lib.hid (HKc.out.later hb9);have HKR:=Lib.hid (HKR.out.later hb9);have HFR:=Lib.hid (HFR.out.later hb9);have HR:=Lib.hid (RdT.later HR.out hb9);rw[← hw2]at hHeld ⊢;rw[← hg];clear hg hw2 hb9;refine Tc 3 (fun K hK=>?_);go_simp;(go_at_call 49;refine (get_any t Ae Ak ne nk ce ck w2 [s] (some ⟨g,0,none⟩) 1 1 rfl (by omega) HS.out HN.out.1 (by have:=HN.out.2;omega) HR.out).mono ?_);rintro e w3 ⟨Ge,gn,gc,Gk,gm,gd,rfl,ho,hb9⟩
  have HG:Hid (RdT w3 w3.heap.size (kidAt t.ks s) ⟨Ge,gn,gc⟩ ⟨Gk,gm,gd⟩):=by
   have h:=ho.rd;rw[if_pos HT.out]at h;exact h
  have HKc:=Lib.hid (HKc.out.later hb9);have HKR:=Lib.hid (HKR.out.later hb9);have HFR:=Lib.hid (HFR.out.later hb9);have HR:=Lib.hid (RdT.later HR.out hb9);clear ho hb9;clear hHeld;refine Th hK ?_ (fun hHeld=>?_)
  ·exact HKc.out.cj
  clear hK K;refine Tc 5 (fun K hK=>?_);go_simp;(go_at_call 94;refine (disable_any (kidAt t.ks s) Ge Gk gn gm gc gd a n w3 (LenT.few (by have:=nodes_kid_at t s;have:=HN.out.2;omega)) (by have:=nodes_kid_at t s;have:=HN.out.2;omega) HG.out).mono ?_);rintro e w4 ⟨k,z9,Re,rn,rc,Rk,rm,rd,Rc,rq,re,rfl,how,hz9,hb9⟩;obtain⟨rfl,hk1,hna,hu⟩:=hz9.out.1 (kid_check HCB.out);have hrlo:r<w3.heap.size:=HFR.out.1;have HOW:=Lib.hid ((how.out.set3 hrlo (.slice Re rn rc) (.slice Rk rm rd) (.slice Rc rq re)).mono (by have:=HKc.out.below.size;exact this:w.heap.size≤w3.heap.size));have HU:Hid (k.1=none_∧rq≤4*nodes t+4∧∃ u,OfC (dl (kidAt t.ks s)) u∧PutC uniF u (oneC a n) k.2):=⟨hk1,by have:=nodes_kid_at t s;omega,hu⟩;have HKc:=Lib.hid (HKc.out.later hb9);have HKR:=Lib.hid (HKR.out.later hb9);have HFR:=Lib.hid (HFR.out.later hb9)
  have HR:=Lib.hid (RdT.later HR.out hb9);clear how hz9 hb9 hk1 hna hu hrlo;obtain⟨z0,z1,z2,-⟩:=HKR.out.cj;have m0:=HFR.out.2 0;have m1:=HFR.out.2 1;have m2:=HFR.out.2 2;clear hHeld;refine Th hK ?_ (fun hHeld=>?_)
  ·exact HKc.out.cj
  clear hK K;refine Tk 6 23 ?_;refine Tk 7 24 ?_;refine Tc 8 (fun K hK=>?_);go_simp;refine Th hK ?_ (fun hHeld2=>?_)
  ·have h9:=(((HKc.out).set (a:=⟨r,0,none⟩) hwr (fun x hx=>by simp at hx;rcases hx with rfl | rfl | rfl | rfl <;> (dsimp only;omega)) (.slice Re rn rc)).set (a:=⟨r,1,none⟩) hwr (fun x hx=>by simp at hx;rcases hx with rfl | rfl | rfl | rfl <;> (dsimp only;omega)) (.slice Rk rm rd)).set (a:=⟨r,2,none⟩) hwr (fun x hx=>by simp at hx;rcases hx with rfl | rfl | rfl | rfl <;> (dsimp only;omega)) (.slice Rc rq re)
   exact h9.cj
  clear hK K hHeld;have hHeld:=hHeld2;clear hHeld2;refine Tk 9 7 ?_;refine wpAnyH_done (by kernel_rfl) ?_ _;clear hHeld z0 z1 z2 m0 m1 m2;obtain⟨z0,z1,z2,-⟩:=HKR.out.cj;have m0:=HFR.out.2 0;have m1:=HFR.out.2 1;have m2:=HFR.out.2 2;obtain⟨W9,hW9⟩:∃ W,W=((w4.setCell ⟨r,0,none⟩ (.slice Re rn rc)).setCell ⟨r,1,none⟩ (.slice Rk rm rd)).setCell ⟨r,2,none⟩ (.slice Rc rq re):=⟨_,rfl⟩
  have HB9:Hid (Below w.heap.size w W9):=by
   unfold Hid;rw[hW9];exact ((HKc.out.below.setCell (p:=⟨r,0,none⟩) hwr _).setCell (p:=⟨r,1,none⟩) hwr _).setCell (p:=⟨r,2,none⟩) hwr _
  have HO9:Hid (OwC W9 w.heap.size k Re rn rc Rk rm rd Rc rq re):=by unfold Hid;rw[hW9];exact HOW.out
  have l0:W9.cell? ⟨r,0,none⟩=some (.slice Re rn rc):=by rw[hW9];go_simp
  have l1:W9.cell? ⟨r,1,none⟩=some (.slice Rk rm rd):=by rw[hW9];go_simp
  have l2:W9.cell? ⟨r,2,none⟩=some (.slice Rc rq re):=by rw[hW9];go_simp
  have HW9:=Lib.hid hW9;clear hW9;rw[← HW9.out];go_wp2_with fail;refine bodyPost_ret (v:=.tuple #[.agg #[.slice Re rn rc,.slice Rk rm rd,.slice Rc rq re],.int .i64 0]) (by simp[results,Tryz.results96,go_sem,l0,l1,l2]) rfl ⟨k,0,Re,rn,rc,Rk,rm,rd,Rc,rq,re,rfl,HO9.out,Lib.hid (And.intro (fun _=>⟨rfl,HU.out.1,HU.out.2.1,HU.out.2.2⟩) (fun h=>by rw[HMB.out]at h;cases h)),HB9.out⟩
end Cs
end Go.Proofs.YtgeafpaognhokaaGreat
namespace Go.Proofs.YtgeafpaognhokaaGreat
open Go.ChangeShapes Go.WideShapes Go.ChangeAt Go.RowKit
namespace Cs
open Tr Cx Sp Rw Classical
def elemsK (ks:List Kd):List ByteArray:=(ks.filter fun k=>decide (0<k.2.es.length)).map fun k=>k.1
theorem elemsK_yes {ks:List Kd} {k:Nat} (h:k<ks.length) (h2:0<(ks[k]).2.es.length):elemsK (ks.take (k+1))=elemsK (ks.take k)++[(ks[k]).1]:=by
 unfold elemsK;rw[List.take_succ_eq_append_getElem h,List.filter_append,List.map_append]
 congr 1
 rw[List.filter_cons,if_pos (decide_eq_true h2)];rfl
theorem elemsK_no {ks:List Kd} {k:Nat} (h:k<ks.length) (h2:¬0<(ks[k]).2.es.length):elemsK (ks.take (k+1))=elemsK (ks.take k):=by
 unfold elemsK;rw[List.take_succ_eq_append_getElem h,List.filter_append,List.map_append];rw[List.filter_cons,if_neg (by rw[decide_eq_true_iff];exact h2)];simp
theorem elemsK_all {ks:List Kd} {k:Nat} (h:ks.length=k):elemsK (ks.take k)=elemsK ks:=by rw[List.take_of_length_le (by omega)]
set_option maxRecDepth 100000 in
set_option maxHeartbeats 4000000 in
theorem selems_own (t:T) (Ae Ak:Option Addr) (ne nk ce ck:Nat) (w:World) (l:List ByteArray) (hl0:(if Tr.rightB 5 t=true then elemsT t else [])=l) (hl:LenT reachBytes t) (hn:nodes t≤1000) (hr:RdT w w.heap.size t ⟨Ae,ne,ce⟩ ⟨Ak,nk,ck⟩) :
  Calls Tryz.prog 114 #[.agg #[.slice Ae ne ce,.slice Ak nk ck]] w (fun e w'=>∃ (A:Option Addr) (m c:Nat),e = .returned (.slice A m c)∧Hid (Own w' w.heap.size 9 1 A m c (strs l))∧Below w.heap.size w w'):=by
 have HRT:∀ W,Below w.heap.size w W→Hid (Calls Tryz.prog 46 #[.agg #[.slice Ae ne ce,.slice Ak nk ck]] W fun e w'=>e = .returned (.bool (Tr.rightB 5 t))∧Below W.heap.size W w'):=fun W hW=>rightT_any t Ae Ak ne nk ce ck W hl (RdT.more hW.size _ (RdT.below hr hW));obtain⟨z,hz⟩:∃ z,Tr.rightB 5 t=z:=⟨_,rfl⟩;rw[hz]at hl0 HRT;have HZ:=Lib.hid hz;have HL0:=Lib.hid hl0;clear hz hl0
 cases t with
 | mk es ks=>
  obtain⟨hle,hlk⟩:=rd_lens hr;have HR:=Lib.hid hr;have HL:=Lib.hid hl;have HLK:=Lib.hid hlk
  have hnk:nk≤1000:=by have:=nodes_es es ks;omega
  have hkn:∀ k∈ks,nodes k.2≤1000:=fun k hk=>by have:=nodes_kid (es:=es) hk;omega
  have HKN:=Lib.hid hkn;clear hle hlk hr hl hn hkn;obtain⟨g,hg⟩:∃ g,g=w.heap.size:=⟨_,rfl⟩;have HK:=Lib.hid (tree_box w Ae Ak ne nk ce ck);rw[← hg]at HK;obtain⟨W0,hW0⟩:∃ W,W=w.alloc (.cells #[.slice Ae ne ce,.slice Ak nk ck] 35):=⟨_,rfl⟩;rw[← hW0]at HK;have HG:=Lib.hid hg;have HW0:=Lib.hid hW0;have k0:=HK.out.c0;have k1:=HK.out.c1;clear hg hW0;go_enter Tryz.func114,Tryz.ntmps114;go_wp2_with fail;rw[← HG.out,← HW0.out];refine (HRT W0 HK.out.below).out.mono ?_;rintro e w1 ⟨rfl,hb9⟩;have HKc:=Lib.hid (HK.out.later hb9);clear hb9 k0 k1 HRT;have k0:=HKc.out.c0;have k1:=HKc.out.c1
  cases z with
  | false=>
   obtain rfl:[]=l:=by rw[← HL0.out];rfl
   go_wp2_with fail;go_ret;exact⟨none,0,0,rfl,⟨World.ownsRow_nil _ _ _ _,by simp[Tr.strs]⟩,HKc.out.below⟩
  | true=>
   have HRI:Hid (RightT 5 (.mk es ks)):=Tr.rightB_iff.1 HZ.out
   obtain rfl:elemsK ks=l:=by rw[← HL0.out];rfl
   go_wp2_with fail
   go_loopw [3,12] (fun v i wr=>∃ (k m:Nat) (Ax:Option Addr) (cx:Nat),k≤nk∧m≤k∧i = .int .i64 k∧v = .slice Ax m cx∧Hid (Own wr w1.heap.size 9 1 Ax m cx (strs (elemsK (ks.take k))))∧Hid (Below w1.heap.size w1 wr)) (fun _ i _=>nk-(intOf i).toNat)
   case atStart=>exact⟨0,0,none,0,by omega,by omega,rfl,rfl,⟨World.ownsRow_nil _ _ _ _,by simp[Tr.strs,elemsK]⟩,Below.refl _ _⟩
   case round=>
    obtain⟨k,m,Ax,cx,hk,hmk,rfl,rfl,HO,HBL⟩:=hrel
    by_cases hlt:k<nk
    ·have hbw:=HKc.out.below.trans (HBL.out.mono HKc.out.below.size)
     have hkl:k<ks.length:=by rw[HLK.out];exact hlt
     obtain⟨b,o,rfl,hb,hc⟩:=rd_kid HR.out (by omega);obtain⟨⟨Ae',ne',ce'⟩,⟨Ak',nk',ck'⟩,c0,c1,c2,hkid⟩:=hc k hkl;dsimp only at c0 c1 c2;have c0:=(hbw.cell (p:=⟨b,o+k*3,none⟩) hb).trans c0;have c1:=(hbw.cell (p:=⟨b,o+k*3+1,none⟩) hb).trans c1;have c2:=(hbw.cell (p:=⟨b,o+k*3+2,none⟩) hb).trans c2;obtain⟨key,hkey⟩:∃ key,key=(ks[k]).1:=⟨_,rfl⟩;rw[← hkey]at c0
     have hle':(ks[k]).2.es.length=ne':=by
      have h:=hkid;rw[← T.eta (ks[k]).2]at h;exact (rd_lens h).1
     obtain⟨W1,hW1⟩:∃ W,W=wr.alloc (.cells #[.string key,.slice Ae' ne' ce',.slice Ak' nk' ck'] 134):=⟨_,rfl⟩;obtain⟨q,hq⟩:∃ q,q=wr.heap.size:=⟨_,rfl⟩
     have hb1:Below wr.heap.size wr W1:=by rw[hW1];exact Dt.box_below _ _ _
     have q0:W1.cell? ⟨q,0,none⟩=some (.string key):=by rw[hW1,hq];go_simp
     have HKQ:=Lib.hid ((Kept.nil_of hb1).cons_of q0);have hbw1:=hbw.trans (hb1.mono hbw.size);have hright:Tr.rightB 5 (ks[k]).2=true:=Tr.rightB_iff.2 ((HRI.out.2.2.2 _ (List.getElem_mem hkl)).2.2.more);have hmem:(ks[k])∈ks:=List.getElem_mem hkl;have hon:∀ y,decide (0<ne')=y→Calls Tryz.prog 113 #[.agg #[.slice Ae' ne' ce',.slice Ak' nk' ck']] W1 fun e w'=>e = .returned (.bool y)∧Below W1.heap.size W1 w':=fun y hy=>on_any (ks[k]).2 Ae' Ak' ne' nk' ce' ck' W1 y (by rw[hright,hy];rfl) (LenT.few (by have:=HKN.out _ hmem;omega)) (RdT.more hbw1.size _ (RdT.below hkid hbw1));have HON:=Lib.hid hon;have HO1:=Lib.hid (own_later HO.out hb1);have HBL1:=Lib.hid (HBL.out.trans (hb1.mono HBL.out.size));have HQ:=Lib.hid hq;have HW1:=Lib.hid hW1
     by_cases hy:0<ne'
     ·have HSUC:Hid (elemsK (ks.take (k+1))=elemsK (ks.take k)++[key]):=by unfold Hid;rw[hkey];exact elemsK_yes hkl (by rw[hle'];exact hy)
      have HC:=Lib.hid (HON.out true (decide_eq_true hy));clear hc hkid hkey hle' hq hW1 hb1 q0 hbw1 hright hmem hon HON hbw;go_wp2_with fail;rw[← HQ.out,← HW1.out];refine HC.out.mono ?_;rintro e w2 ⟨rfl,hb2⟩;have HO:=Lib.hid (own_later HO1.out hb2);have HBL:=Lib.hid (HBL1.out.trans (hb2.mono HBL1.out.size));have q0:=(HKQ.out.later hb2).c0;clear hb2 HC HO1 HBL1 c0 c1 c2;obtain⟨A6,c6,w6,r1,r2,r3⟩:=push_str w2 w1.heap.size w2.heap.size rfl HO.out HBL.out.size key (by omega)
      have HO6:Hid (Own w6 w1.heap.size 9 1 A6 (m+1) c6 (strs (elemsK (ks.take (k+1))))):=by unfold Hid;rw[HSUC.out];exact r2
      have HBL6:=Lib.hid (HBL.out.trans r3);have Hrun:=Lib.hid r1;clear r1 r2 r3;go_wp2_with (at_builtin;refine Lib.wpList_append_run _ rfl _ _ _ _ rfl _ _ rfl rfl _ _ Hrun.out ?_);go_roundw
      case rel=>exact⟨k+1,m+1,A6,c6,by omega,by omega,by go_num,rfl,HO6.out,HBL6.out⟩
      case measure=>simp[intOf];omega
     ·have HSUC:Hid (elemsK (ks.take (k+1))=elemsK (ks.take k)):=by unfold Hid;exact elemsK_no hkl (by rw[hle'];exact hy)
      have HC:=Lib.hid (HON.out false (decide_eq_false hy));clear hc hkid hkey hle' hq hW1 hb1 q0 hbw1 hright hmem hon HON hbw;go_wp2_with fail;rw[← HQ.out,← HW1.out];refine HC.out.mono ?_;rintro e w2 ⟨rfl,hb2⟩
      have HO2:Hid (Own w2 w1.heap.size 9 1 Ax m cx (strs (elemsK (ks.take (k+1))))):=by unfold Hid;rw[HSUC.out];exact own_later HO1.out hb2
      have HBL:=Lib.hid (HBL1.out.trans (hb2.mono HBL1.out.size));clear hb2 HC HO1 HBL1 c0 c1 c2;go_wp2_with fail;go_roundw
      case rel=>exact⟨k+1,m,Ax,cx,by omega,by omega,by go_num,rfl,HO2.out,HBL.out⟩
      case measure=>simp[intOf];omega
    ·obtain rfl:k=nk:=by omega
     have HRD:Hid (Own wr w.heap.size 9 1 Ax m cx (strs (elemsK ks))):=by
      have h1:=HO.out;rw[elemsK_all HLK.out]at h1;exact h1.mono HKc.out.below.size
     have HB:=Lib.hid (HKc.out.below.trans (HBL.out.mono HKc.out.below.size));go_wp2_with fail;go_ret;exact⟨Ax,m,cx,rfl,HRD.out,HB.out⟩
end Cs
end Go.Proofs.YtgeafpaognhokaaGreat
namespace Go.Proofs.YtgeafpaognhokaaGreat
open Go.ChangeShapes Go.WideShapes Go.ChangeAt Go.RowKit
namespace Cs
open Tr Cx Sp Rw Classical
set_option maxRecDepth 100000 in
set_option maxHeartbeats 4000000 in
theorem refalike_any (a b:List ByteArray) (n m:Nat) (A B:Option Addr) (c d:Nat) (w:World) (hn:n≤1000) (hra:Rd w w.heap.size 1 A n c (strs a)) (hrb:Rd w w.heap.size 1 B m d (strs b)) (z:Bool) (hz:decide (a=b)=z) :
  Calls Tryz.prog 66 #[.slice A n c,.slice B m d] w fun e w'=>e = .returned (.bool z)∧Below w.heap.size w w':=by
 have HZ:=Lib.hid hz;have HA:=Lib.hid hra;have HB:=Lib.hid hrb;have HLA:=Lib.hid (rd_len1 hra);have HLB:=Lib.hid (rd_len1 hrb);clear hra hrb hz
 by_cases hnm:n=m
 ·subst hnm
  have f0:(n != n)=false:=by simp
  go_enter Tryz.func66,Tryz.ntmps66;go_wp2
  go_loopw [13] (fun i wr=>∃ (k:Nat),k≤n∧i = .int .i64 k∧Hid (a.take k=b.take k)∧Hid (Below w.heap.size w wr)) (fun i _=>n-(intOf i).toNat)
  case atStart=>exact⟨0,by omega,rfl,Lib.hid (by rw[List.take_zero,List.take_zero]),Below.refl _ _⟩
  case round=>
   obtain⟨k,hk,rfl,HT,HBL⟩:=hrel
   by_cases hlt:k<n
   ·have hka:k<a.length:=by rw[HLA.out];exact hlt
    have hkb:k<b.length:=by rw[HLB.out];exact hlt
    obtain⟨g,o,rfl,hgl,hc⟩:=rd_text HA.out (by omega);obtain⟨g2,o2,rfl,hgl2,hc2⟩:=rd_text HB.out (by omega);have q0:=(HBL.out.cell (p:=⟨g,o+k,none⟩) hgl).trans (hc k hka);have r0:=(HBL.out.cell (p:=⟨g2,o2+k,none⟩) hgl2).trans (hc2 k hkb);have hT1:a.take (k+1)=a.take k++[a[k]]:=List.take_succ_eq_append_getElem hka;have hT2:b.take (k+1)=b.take k++[b[k]]:=List.take_succ_eq_append_getElem hkb;obtain⟨x,hx⟩:∃ x,x=a[k]:=⟨_,rfl⟩;obtain⟨y,hy⟩:∃ y,y=b[k]:=⟨_,rfl⟩;rw[← hx]at q0 hT1;rw[← hy]at r0 hT2
    by_cases h0:x=y
    ·subst h0
     have HT2:Hid (a.take (k+1)=b.take (k+1)):=by unfold Hid;rw[hT1,hT2,HT.out]
     clear hc hc2 hT1 hT2 hx hy;go_wp2
     go_quiet (fail)
     go_wp2;go_roundw
     case rel=>exact⟨k+1,by omega,by go_num,HT2.out,bel_drewN HBL.out _⟩
     case measure=>simp[intOf];omega
    ·have f2:(x.toList==y.toList)=false:=bytes_ne h0
     have f3:(x.toList != y.toList)=true:=by unfold bne;rw[f2];rfl
     obtain rfl:z=false:=by
      rw[← HZ.out];refine decide_eq_false fun e=>?_;subst e;exact h0 (hx.trans hy.symm)
     clear hc hc2 hT1 hT2 hx hy h0;go_wp2
     go_quiet (fail)
     go_wp2;go_ret;exact⟨rfl,bel_drewN HBL.out _⟩
   ·obtain rfl:k=n:=by omega
    obtain rfl:z=true:=by
     rw[← HZ.out];have h:=HT.out;rw[List.take_of_length_le (by rw[HLA.out];omega),List.take_of_length_le (by rw[HLB.out];omega)]at h;exact decide_eq_true h
    go_wp2;go_ret;exact⟨rfl,HBL.out⟩
 ·have f0:(n != m)=true:=by simpa using hnm
  have f1:((n:Int) != (m:Int))=true:=by simp;omega
  obtain rfl:z=false:=by
   rw[← HZ.out];refine decide_eq_false fun e=>hnm ?_;rw[← HLA.out,← HLB.out,e]
  go_enter Tryz.func66,Tryz.ntmps66;go_wp2;go_ret;exact⟨rfl,Below.refl _ _⟩
end Cs
end Go.Proofs.YtgeafpaognhokaaGreat
namespace Go.Proofs.YtgeafpaognhokaaGreat
open Go.ChangeShapes Go.WideShapes Go.ChangeAt Go.RowKit
namespace Cs
open Tr Cx Sp Rw Classical
theorem nodes_getT (t:T):∀ p:List ByteArray,nodes (getT t p)≤nodes t
 | []=>Nat.le_refl _
 | k::p=>Nat.le_trans (nodes_getT (kidAt t.ks k) p) (nodes_kid_at t k)
end Cs
end Go.Proofs.YtgeafpaognhokaaGreat
namespace Go.Proofs.YtgeafpaognhokaaGreat
open Go.ChangeShapes Go.WideShapes Go.ChangeAt Go.RowKit
namespace Cs
open Tr Cx Sp Rw Classical
end Cs
end Go.Proofs.YtgeafpaognhokaaGreat
namespace Go.Proofs.YtgeafpaognhokaaGreat
open Go.ChangeShapes Go.WideShapes Go.ChangeAt Go.RowKit
namespace Cs
open Tr Cx Sp Rw Classical
end Cs
end Go.Proofs.YtgeafpaognhokaaGreat
namespace Go.Proofs.YtgeafpaognhokaaGreat
open Go.ChangeShapes Go.WideShapes Go.ChangeAt Go.RowKit
namespace Cs
open Tr Cx Sp Rw Classical
end Cs
end Go.Proofs.YtgeafpaognhokaaGreat
namespace Go.Proofs.YtgeafpaognhokaaGreat
open Go.ChangeShapes Go.WideShapes Go.ChangeAt Go.RowKit
namespace Cs
open Tr Cx Sp Rw Classical
theorem cpV_len (p:CP):(cpV p).length=3:=rfl
theorem cpV_one (p:CP):∀ u∈cpV p,u.oneCell'=true:=by
 intro u hu;simp[cpV]at hu
 rcases hu with rfl | rfl | rfl <;> rfl
structure RowP (w:World) (A:Option Addr) (n c:Nat) (ps:List CP):Prop where
 row:Rd w w.heap.size 3 A n c (ps.flatMap cpV)
 len:ps.length=n
 each:∀ p∈ps,RdP w p
theorem RowP.later {w w':World} {A:Option Addr} {n c:Nat} {ps:List CP} (h:RowP w A n c ps) (hb:Below w.heap.size w w'):RowP w' A n c ps:=⟨h.row.later hb,h.len,fun p hp=>(h.each p hp).later hb⟩
theorem RowP.at_ {w:World} {A:Option Addr} {n c:Nat} {ps:List CP} (h:RowP w A n c ps) (hn:0<n):∃ b o,A=some ⟨b,o,none⟩∧b<w.heap.size∧∀ (k:Nat) (hk:k<ps.length),w.cell? ⟨b,o+k*3,none⟩=some (.slice ps[k].e.A ps[k].e.n ps[k].e.c)∧w.cell? ⟨b,o+k*3+1,none⟩=some (.slice ps[k].d.A ps[k].d.n ps[k].d.c)∧w.cell? ⟨b,o+k*3+2,none⟩=some (.slice ps[k].c.A ps[k].c.n ps[k].c.c):=by
 obtain⟨b,o,e,hb,hc⟩:=rd_elem cpV_len h.row (m:=0) hn;exact⟨b,o,e,hb,fun k hk=>⟨hc k hk 0 _ rfl,hc k hk 1 _ rfl,hc k hk 2 _ rfl⟩⟩
theorem flat_take (ps:List CP) (j:Nat):(ps.flatMap cpV).take (j*3)=(ps.take j).flatMap cpV:=by
 induction ps generalizing j with
 | nil=>simp
 | cons p ps ih=>
  cases j with
  | zero=>simp
  | succ j=>
   rw[List.take_succ_cons,List.flatMap_cons,List.flatMap_cons,← ih j,List.take_append,cpV_len,show (j+1)*3-3=j*3 by omega,List.take_of_length_le (by rw[cpV_len];omega)]
theorem flat_drop (ps:List CP) (j:Nat):(ps.flatMap cpV).drop (j*3)=(ps.drop j).flatMap cpV:=by
 induction ps generalizing j with
 | nil=>simp
 | cons p ps ih=>
  cases j with
  | zero=>simp
  | succ j=>
   rw[List.drop_succ_cons,List.flatMap_cons,← ih j,List.drop_append,cpV_len,show (j+1)*3-3=j*3 by omega,List.drop_of_length_le (by rw[cpV_len];omega),List.nil_append]
theorem RowP.to {w:World} {A:Option Addr} {n c:Nat} {ps:List CP} (h:RowP w A n c ps) {j:Nat} (hj:j≤n):RowP w A j c (ps.take j):=⟨by rw[← flat_take];exact h.row.to_ hj,by rw[List.length_take,h.len];omega,fun p hp=>h.each p (List.mem_of_mem_take hp)⟩
theorem RowP.from {w:World} {A:Option Addr} {n c:Nat} {ps:List CP} (h:RowP w A n c ps) {j:Nat} (hj:j≤n):RowP w (if c=j then A else A.map (·.add (j*3))) (n-j) (c-j) (ps.drop j):=⟨by rw[← flat_drop];exact h.row.from_ hj,by rw[List.length_drop,h.len],fun p hp=>h.each p (List.mem_of_mem_drop hp)⟩
theorem infoC:(Tryz.prog.info? 42).map (fun i=>(i.zero,i.size,i.bytes))=some (some (.agg #[.slice none 0 0,.slice none 0 0,.slice none 0 0]),3,72):=by kernel_rfl
def sumN (ps:List CP):Nat:=(ps.map fun p=>nodes p.k.1).sum
def sumC (ps:List CP):Nat:=(ps.map fun p=>p.c.n).sum
theorem sumN_cut (ps:List CP) (j:Nat):sumN (ps.take j)+sumN (ps.drop j)=sumN ps:=by unfold sumN;rw[← List.sum_append,← List.map_append,List.take_append_drop]
theorem sumC_cut (ps:List CP) (j:Nat):sumC (ps.take j)+sumC (ps.drop j)=sumC ps:=by unfold sumC;rw[← List.sum_append,← List.map_append,List.take_append_drop]
structure SmallP (ps:List CP):Prop where
 right:∀ p∈ps,RK p.k
 few:sumN ps≤1000∧sumC ps≤1000
theorem SmallP.take {ps:List CP} (h:SmallP ps) (j:Nat):SmallP (ps.take j):=⟨fun p hp=>h.right p (List.mem_of_mem_take hp),by have h1:=sumN_cut ps j;have h2:=h.few;omega,by have h1:=sumC_cut ps j;have h2:=h.few;omega⟩
theorem SmallP.drop {ps:List CP} (h:SmallP ps) (j:Nat):SmallP (ps.drop j):=⟨fun p hp=>h.right p (List.mem_of_mem_drop hp),by have h1:=sumN_cut ps j;have h2:=h.few;omega,by have h1:=sumC_cut ps j;have h2:=h.few;omega⟩
end Cs
end Go.Proofs.YtgeafpaognhokaaGreat
namespace Go.Proofs.YtgeafpaognhokaaGreat
open Go.ChangeShapes Go.WideShapes Go.ChangeAt Go.RowKit
namespace Cs
open Tr Cx Sp Rw Classical
def ScrC (w:World) (lo:Nat) (A:Option Addr) (n:Nat):Prop:=0<n→∃ b o,A=some ⟨b,o,none⟩∧lo≤b∧b<w.heap.size∧(∀ j,w.frozen? ⟨b,j,none⟩=false)∧∀ i,i<n→∃ x0 x1 x2:Int,w.cell? ⟨b,o+i*3,none⟩=some (.int .i64 x0)∧w.cell? ⟨b,o+i*3+1,none⟩=some (.int .i64 x1)∧w.cell? ⟨b,o+i*3+2,none⟩=some (.int .i64 x2)
theorem ScrC.of_ro {w:World} {ok:Nat→Prop} {lo:Nat} (hok:∀ b,ok b→b<w.heap.size→lo≤b) {A:Option Addr} {n c:Nat} {cs:List S3} (hl:cs.length=n) (h:RO w ok 3 A n c (spsC cs)):ScrC w lo A n:=fun hn=>by
 obtain⟨b,o,e,q1,q2,q3,q4⟩:=h.at_ hn;refine⟨b,o,e,hok b q1 q2,q2,q3,fun i hi=>?_⟩
 have hi':i<cs.length:=by omega
 have f:=fun j hj=>flat_at spC_len cs i j hi' hj;refine⟨(cs[i]).1,(cs[i]).2.1,(cs[i]).2.2,q4 _ _ (f 0 (by omega)),?_,?_⟩
 ·rw[Nat.add_assoc];exact q4 _ _ (f 1 (by omega))
 ·rw[Nat.add_assoc];exact q4 _ _ (f 2 (by omega))
theorem ScrC.fr {w w':World} {lo lo':Nat} (hf:Fr lo' w w') {A:Option Addr} {n:Nat} (h:ScrC w lo A n):ScrC w' lo A n:=fun hn=>by
 obtain⟨b,o,e,q1,q2,q3,q4⟩:=h hn;refine⟨b,o,e,q1,Nat.lt_of_lt_of_le q2 hf.size,fun j=>(hf.froz b j q2).trans (q3 j),fun i hi=>?_⟩;obtain⟨x0,x1,x2,c0,c1,c2⟩:=q4 i hi;obtain⟨_,d0,a0⟩:=hf.cell _ _ _ q2 c0;obtain⟨_,d1,a1⟩:=hf.cell _ _ _ q2 c1;obtain⟨_,d2,a2⟩:=hf.cell _ _ _ q2 c2;obtain⟨y0,rfl⟩:=a0.int;obtain⟨y1,rfl⟩:=a1.int;obtain⟨y2,rfl⟩:=a2.int;exact⟨y0,y1,y2,d0,d1,d2⟩
structure ScrP (w:World) (lo:Nat) (p:CP):Prop where
 tree:ScrT w lo p.k.1 p.e p.d
 few:LenT reachBytes p.k.1
 ctx:ScrC w lo p.c.A p.c.n
 len:p.c.n≤1000
theorem ScrP.fr {w w':World} {lo lo':Nat} (hf:Fr lo' w w') {p:CP} (h:ScrP w lo p):ScrP w' lo p:=⟨ScrT.fr hf _ h.tree,h.few,h.ctx.fr hf,h.len⟩
theorem ScrP.of_own {w:World} {lo lo':Nat} {k:K} {Ae Ak Ca:Option Addr} {ne ce nk ck na ca9:Nat} (h:OwC w lo' k Ae ne ce Ak nk ck Ca na ca9) (hl:lo≤lo') (hn:nodes k.1≤1000) (hna:na≤1000):ScrP w lo ⟨k,⟨Ae,ne,ce⟩,⟨Ak,nk,ck⟩,⟨Ca,na,ca9⟩⟩:=
 ⟨ScrT.of_rd (fun b hb _=>Nat.le_trans hl hb) _ h.tree,LenT.few (by show nodes k.1≤_;omega),ScrC.of_ro (fun b hb _=>Nat.le_trans hl hb) h.len h.ctx,hna⟩
structure NoC (w:World) (ok:Nat→Prop) (p:CP):Prop where
 tree:RdO w ok p.k.1 p.e p.d
 len:p.k.2.length=p.c.n
 ctx:RO w ok 3 p.c.A p.c.n p.c.c (spsC p.k.2)
theorem NoC.of_own {w:World} {lo:Nat} {ok:Nat→Prop} {k:K} {Ae Ak Ca:Option Addr} {ne ce nk ck na ca9:Nat} (h:OwC w lo k Ae ne ce Ak nk ck Ca na ca9) (ho:∀ b,lo≤b→b<w.heap.size→ok b):NoC w ok ⟨k,⟨Ae,ne,ce⟩,⟨Ak,nk,ck⟩,⟨Ca,na,ca9⟩⟩:=⟨RdO.mono ho _ h.tree,h.len,h.ctx.mono ho⟩
theorem NoC.mono {w:World} {ok ok':Nat→Prop} {p:CP} (h:NoC w ok p) (ho:∀ b,ok b→b<w.heap.size→ok' b):NoC w ok' p:=⟨RdO.mono ho _ h.tree,h.len,h.ctx.mono ho⟩
theorem NoC.keep {w w':World} {ok:Nat→Prop} {p:CP} (h:NoC w ok p) (hs:w.heap.size≤w'.heap.size) (hk:∀ b,ok b→b<w.heap.size→w'.heap[b]?=w.heap[b]?):NoC w' ok p:=⟨RdO.keep hs hk _ h.tree,h.len,h.ctx.keep hs hk⟩
theorem NoC.later {w w':World} {ok:Nat→Prop} {p:CP} (h:NoC w ok p) (hb:Below w.heap.size w w'):NoC w' ok p:=h.keep hb.size fun b _ hlt=>hb.block b hlt
theorem NoC.rd {w:World} {ok:Nat→Prop} {p:CP} (h:NoC w ok p):RdP w p:=⟨RdO.rd _ h.tree,h.len,h.ctx.rd⟩
end Cs
end Go.Proofs.YtgeafpaognhokaaGreat
namespace Go.Proofs.YtgeafpaognhokaaGreat
open Go.ChangeShapes Go.WideShapes Go.ChangeAt Go.RowKit
namespace Cs
open Tr Cx Sp Rw Classical
def Firm (G:Nat→Prop) (w:World) (p:CP):Prop:=∀ w':World,w.heap.size≤w'.heap.size→(∀ b,b<w.heap.size→¬G b→w'.heap[b]?=w.heap[b]?)→RdP w' p
section
variable {G:Nat→Prop} {w w':World} {p:CP}
theorem Firm.rd (h:Firm G w p):RdP w p:=h w (Nat.le_refl _) fun _ _ _=>rfl
theorem Firm.keep (h:Firm G w p) (hs:w.heap.size≤w'.heap.size) (hk:∀ b,b<w.heap.size→¬G b→w'.heap[b]?=w.heap[b]?):Firm G w' p:=fun w2 h1 h2=>h w2 (Nat.le_trans hs h1) fun b hlt hn=>(h2 b (Nat.lt_of_lt_of_le hlt hs) hn).trans (hk b hlt hn)
theorem Firm.later (h:Firm G w p) (hb:Below w.heap.size w w'):Firm G w' p:=h.keep hb.size fun b hlt _=>hb.block b hlt
end
end Cs
end Go.Proofs.YtgeafpaognhokaaGreat
namespace Go.Proofs.YtgeafpaognhokaaGreat
open Go.ChangeShapes Go.WideShapes Go.ChangeAt Go.RowKit
namespace Cs
open Tr Cx Sp Rw Classical
theorem rd_one (w:World) (p:CP):Rd (w.alloc (.cells #[.slice p.e.A p.e.n p.e.c,.slice p.d.A p.d.n p.d.c,.slice p.c.A p.c.n p.c.c] 42)) (w.heap.size+1) 3 (some ⟨w.heap.size,0,none⟩) 1 1 ([p].flatMap cpV):=
 ⟨rfl,Nat.le_refl _,fun u hu=>cpV_one p u (by simpa using hu),fun _=>⟨_,_,rfl,by omega,fun j u hu=>by
  rw[Nat.zero_add,cell_of_row _ _ j _ _ (0,0) (heap_alloc_new _ _)]
  simpa [cpV] using hu⟩⟩
set_option maxRecDepth 100000 in
theorem push_cau {w:World} {base n c:Nat} {A:Option Addr} {l:List CP} (h:Own w base 42 3 A n c (l.flatMap cpV)) (hb:base≤w.heap.size) (p:CP) (hn:n≤1000) :
  ∃ A' c' w',(Builtin.append_ #[118,118] 118 #[.slice A n c,.slice (some ⟨w.heap.size,0,none⟩) 1 1]).run Tryz.prog (w.alloc (.cells #[.slice p.e.A p.e.n p.e.c,.slice p.d.A p.d.n p.d.c,.slice p.c.A p.c.n p.c.c] 42)) = .ok (.slice A' (n+1) c') w'∧Own w' base 42 3 A' (n+1) c' ((l++[p]).flatMap cpV)∧Below base w w'∧w.heap.size≤w'.heap.size∧∀ b,b<w.heap.size→(Value.slice A n c).ownBlock≠some b→w'.heap[b]?=w.heap[b]?∧(Value.slice A' (n+1) c').ownBlock≠some b:=by
 obtain⟨i0,hi0,hz0,hz1,hz2⟩:=info_of infoC;obtain⟨W,hW⟩:∃ W,W=w.alloc (.cells #[.slice p.e.A p.e.n p.e.c,.slice p.d.A p.d.n p.d.c,.slice p.c.A p.c.n p.c.c] 42):=⟨_,rfl⟩
 have hal:Below w.heap.size w W:=by rw[hW];exact (Below.refl _ _).alloc (Nat.le_refl _) _
 have hsz:W.heap.size=w.heap.size+1:=by rw[hW];simp
 have hone:=rd_one w p;rw[← hW]at hone ⊢;obtain⟨v',w',r1,r2,r3,r4⟩:=run_app (P:=Tryz.prog) W base 118 118 42 i0 _ 3 72 Tryz.underlying118 hi0 hz0 hz1 hz2 rfl (by omega) (own_later h hal).row hone (by omega) (by omega) (by omega)
 have e1:(l++[p]).flatMap cpV=l.flatMap cpV++[p].flatMap cpV:=by simp
 rw[← e1]at r2
 obtain⟨A',c',rfl,ho⟩:=Own.of_row r2 (fun u hu=>by
  obtain⟨x,_,hu⟩:=List.mem_flatMap.1 hu
  exact cpV_one x u hu)
 refine⟨A',c',w',r1,ho,(hal.mono hb).trans ((Below.refl base W).grown r3 (by omega) (fun k hk=>(h.row.lt k hk).1)),Nat.le_trans (by omega) r3.size,fun b hlt hne=>⟨?_,fun he=>?_⟩⟩
 ·rw[r3.block b (by omega) (fun e=>hne e.symm)]
  exact hal.block b hlt
 ·rcases r4 with r4 | r4
  ·exact hne (r4.symm.trans he)
  ·have h3:some b=some W.heap.size:=he.symm.trans r4
   injection h3 with h3;omega
end Cs
end Go.Proofs.YtgeafpaognhokaaGreat
namespace Go.Proofs.YtgeafpaognhokaaGreat
open Go.ChangeShapes Go.WideShapes Go.ChangeAt Go.RowKit
namespace Tr
theorem RO.later {w w':World} {ok:Nat→Prop} {sz n c:Nat} {A:Option Addr} {xs:List Value} (h:RO w ok sz A n c xs) (hb:Below w.heap.size w w'):RO w' ok sz A n c xs:=h.keep hb.size fun b _ hlt=>hb.block b hlt
end Tr
namespace Cs
open Tr Cx Sp Rw Classical
structure InvL (vb:World) (c:K) (li:List Int) (k:Nat) (Ab:Option Addr) (cb:Nat) (ps:List CP) (w:World):Prop where
 below:Below vb.heap.size vb w
 len:ps.length=k
 made:Made c li (ps.map CP.k)
 row:Own w vb.heap.size 42 3 Ab k cb (ps.flatMap cpV)
 each:∀ p∈ps,NoC w (fun b=>vb.heap.size≤b∧(Value.slice Ab k cb).ownBlock≠some b) p∧p.c.n≤4
theorem InvL.zero (vb:World) (c:K) (li:List Int):InvL vb c li 0 none 0 [] vb:=⟨Below.refl _ _,rfl,Made.nil _ _,⟨World.ownsRow_nil _ _ _ _,by simp⟩,by simp⟩
theorem InvL.later {vb w w':World} {c:K} {li:List Int} {k cb:Nat} {Ab:Option Addr} {ps:List CP} (h:InvL vb c li k Ab cb ps w) (hb:Below w.heap.size w w'):InvL vb c li k Ab cb ps w':=
 ⟨h.below.trans (hb.mono h.below.size),h.len,h.made,own_later h.row hb,fun p hp=>⟨(h.each p hp).1.later hb,(h.each p hp).2⟩⟩
theorem InvL.push {vb w v0:World} {c:K} {li:List Int} {k cb g:Nat} {Ab:Option Addr} {ps:List CP} (h:InvL vb c li k Ab cb ps w) (hk:k<li.length) (hk8:k≤1000) {p:CP} (hv:∀ b,(Value.slice Ab k cb).ownBlock=some b→b<v0.heap.size) (hv0:vb.heap.size≤v0.heap.size) (hn:NoC w (fun b=>v0.heap.size≤b∧b≠g) p)
  (hp:p.k=oneK ⟨cA k,cN k,⟨#[]⟩,li[k]⟩) (hc4:p.c.n≤4) (he:RightE ⟨cA k,cN k,⟨#[]⟩,li[k]⟩) (hno:hasC c.2 (cA k) (cN k)=false) :
  ∃ A' c' w',(Builtin.append_ #[118,118] 118 #[.slice Ab k cb,.slice (some ⟨w.heap.size,0,none⟩) 1 1]).run Tryz.prog (w.alloc (.cells #[.slice p.e.A p.e.n p.e.c,.slice p.d.A p.d.n p.d.c,.slice p.c.A p.c.n p.c.c] 42)) = .ok (.slice A' (k+1) c') w'∧InvL vb c li (k+1) A' c' (ps++[p]) w':=by
 obtain⟨A',c',w',h1,h2,h3,h4,h5⟩:=push_cau h.row h.below.size p hk8;refine⟨A',c',w',h1,h.below.trans h3,by rw[List.length_append,h.len];rfl,?_,h2,fun q hq=>?_⟩
 ·rw[List.map_append]
  have hl:(ps.map CP.k).length=k:=by rw[List.length_map,h.len]
  subst hl;exact h.made.snoc hk hp he hno
 ·rcases List.mem_append.1 hq with hq | hq
  ·obtain⟨g1,g2⟩:=h.each q hq
   exact⟨((g1.mono (ok':=fun b=>(vb.heap.size≤b∧(Value.slice Ab k cb).ownBlock≠some b)∧(Value.slice A' (k+1) c').ownBlock≠some b) (fun b hb hlt=>⟨hb,(h5 b hlt hb.2).2⟩)).keep h4 (fun b hb hlt=>(h5 b hlt hb.1.2).1)).mono (fun b hb _=>⟨hb.1.1,hb.2⟩),g2⟩
  ·obtain rfl:=List.mem_singleton.1 hq
   have ho:∀ b,v0.heap.size≤b→(Value.slice Ab k cb).ownBlock≠some b:=fun b hb e=>by have:=hv b e;omega
   exact⟨((hn.mono (ok':=fun b=>v0.heap.size≤b∧(Value.slice A' (k+1) c').ownBlock≠some b) (fun b hb hlt=>⟨hb.1,(h5 b hlt (ho b hb.1)).2⟩)).keep h4 (fun b hb hlt=>(h5 b hlt (ho b hb.1)).1)).mono (fun b hb _=>⟨Nat.le_trans hv0 hb.1,hb.2⟩),hc4⟩
theorem InvL.cells {vb w:World} {c:K} {li:List Int} {k cb:Nat} {Ab:Option Addr} {ps:List CP} (h:InvL vb c li k Ab cb ps w) (hk:0<k):∃ b o,Ab=some ⟨b,o,none⟩∧vb.heap.size≤b∧b<w.heap.size∧∀ (j:Nat) (hj:j<ps.length),w.cell? ⟨b,o+j*3,none⟩=some (.slice ps[j].e.A ps[j].e.n ps[j].e.c)∧w.cell? ⟨b,o+j*3+1,none⟩=some (.slice ps[j].d.A ps[j].d.n ps[j].d.c)∧w.cell? ⟨b,o+j*3+2,none⟩=some (.slice ps[j].c.A ps[j].c.n ps[j].c.c):=by
 obtain⟨b,o,e,hb,hc⟩:=rd_elem cpV_len h.row.rd (m:=0) hk;obtain⟨b2,o2,e2,hb2,hlt,_⟩:=(RO.of_own h.row).at_ hk;rw[e]at e2;injection e2 with e3;injection e3 with e4;subst e4;exact⟨b,o,e,hb2.1,hlt,fun k hk=>⟨hc k hk 0 _ rfl,hc k hk 1 _ rfl,hc k hk 2 _ rfl⟩⟩
end Cs
end Go.Proofs.YtgeafpaognhokaaGreat
namespace Go.Proofs.YtgeafpaognhokaaGreat
open Go.ChangeShapes Go.WideShapes Go.ChangeAt Go.RowKit
namespace Cs
open Tr Cx Sp Rw Classical
theorem levels_one (e:E):levels (oneT e)=1:=by
 unfold oneT;rw[levels_mk];rfl
theorem wrapE_one {e:E} {s:ByteArray} (he:RightE e) (hs:KeyOk s):wrapE (oneT e) [s]=0:=by
 unfold wrapE;rw[if_neg,if_neg,if_neg,if_neg]
 ·rw[levels_one];simp
 ·unfold oneT;simp[T.es]
 ·simp
 ·rw[Tr.rightB_iff.2 (right_oneT (d:=4) he),show badB [s]=false from badB_iff.2 fun k hk=>by rw[List.mem_singleton.1 hk];exact hs]
  simp
theorem wrapR_one {e:E} {s:ByteArray} (he:RightE e) (hs:KeyOk s):wrapR (oneT e) [s]=wrapT (oneT e) [s]:=by
 unfold wrapR;rw[if_pos ⟨wrapE_one he hs,by unfold oneT;simp[T.es]⟩]
noncomputable def roomB (t:T) (s:ByteArray):Bool:=decide (t.ks.length<24)||decide (s∈keysOf t.ks)
theorem kid_some {t:T} {s:ByteArray} (h:RightT 5 t):s∈keysOf t.ks↔¬((kidAt t.ks s).es=[]∧(kidAt t.ks s).ks=[]):=by
 constructor
 ·intro hs
  obtain⟨x,hx,rfl⟩:=List.mem_map.1 hs
  cases t with
  | mk es ks=>
   rw[show kidAt (T.mk es ks).ks x.1=x.2 from kidAt_of h.2.2.1 hx];exact (h.2.2.2 x hx).2.1
 ·intro hs
  by_cases h2:s∈keysOf t.ks
  ·exact h2
  ·exact absurd (by rw[kidAt_no h2];exact⟨rfl,rfl⟩) hs
theorem kid_none {w:World} {B:Nat} {u:T} {Ge Gk:Option Addr} {gn gm gc gd:Nat} (h:RdT w B u ⟨Ge,gn,gc⟩ ⟨Gk,gm,gd⟩):(gn=0∧gm=0)↔(u.es=[]∧u.ks=[]):=by
 have h2:=h;rw[← T.eta u]at h2;have h3:=rd_lens h2;rw[← h3.1,← h3.2,List.length_eq_zero_iff,List.length_eq_zero_iff]
set_option maxRecDepth 100000 in
set_option maxHeartbeats 4000000 in
theorem sadd_any (t:T) (Ae Ak:Option Addr) (ne nk ce ck:Nat) (s:ByteArray) (a n:Int) (w:World) (hl:LenT reachBytes t) (hn:nodes t≤1000) (hr:RdT w w.heap.size t ⟨Ae,ne,ce⟩ ⟨Ak,nk,ck⟩) :
  Calls Tryz.prog 95 #[.agg #[.slice Ae ne ce,.slice Ak nk ck],.string s,.agg #[.int .i64 a,.int .i64 n]] w (DeltaIs w.heap.size (mayB t s a n&&roomB t s) (if mayB t s a n=true then 4 else 1) (wrapT (oneT ⟨a,n,⟨#[]⟩,0⟩) [s]) (dl (kidAt t.ks s)) a n (4*nodes t+4) w):=by
 obtain⟨ok,hok⟩:∃ x,(mayB t s a n&&roomB t s)=x:=⟨_,rfl⟩
 obtain⟨er,her⟩:∃ x:Int,(if mayB t s a n=true then 4 else 1)=x:=⟨_,rfl⟩
 rw[hok,her];have HOK0:=Lib.hid hok;have HER0:=Lib.hid her;clear hok her;obtain⟨W,p,q,r,HW,HP,HQ,HR0,HKc,HKR,HFR⟩:=boxTDC w Ae Ak ne nk ce ck a n
 have hwr:w.heap.size≤r:=by have:=HP.out;have:=HR0.out;omega
 have hpr:p<r:=by have:=HP.out;have:=HR0.out;omega
 have hqr:q<r:=by have:=HQ.out;have:=HR0.out;omega
 obtain⟨z,hz⟩:∃ z,mayB t s a n=z:=⟨_,rfl⟩;have HR:=Lib.hid (RdT.more HKc.out.below.size _ (RdT.below hr HKc.out.below));have HD:=Lib.hid (scheck_any t Ae Ak ne nk ce ck s a n W z hz hl hn HR.out);have HN:=Lib.hid (And.intro hl hn);have HMB:=Lib.hid hz;clear hl hn hr hz;obtain⟨c0,c1,c2,c3,-⟩:=HKc.out.cj;go_enter Tryz.func95,Tryz.ntmps95;go_wp2_with fail;rw[← HP.out,← HW.out]
 try rw[← HR0.out]
 try rw[← HQ.out]
 refine HD.out.mono ?_;rintro e v1 ⟨rfl,hb9⟩;have HKc:=Lib.hid (HKc.out.later hb9);have HKR:=Lib.hid (HKR.out.later hb9);have HFR:=Lib.hid (HFR.out.later hb9);have HR:=Lib.hid (RdT.later HR.out hb9);clear hb9 HD c0 c1 c2 c3
 cases z with
 | false=>
  have HOK:Hid (ok=false):=by unfold Hid;rw[← HOK0.out,HMB.out];rfl
  have HER:Hid ((1:Int)=er):=by unfold Hid;rw[← HER0.out,HMB.out];rfl
  obtain⟨z0,z1,z2,-⟩:=HKR.out.cj;have m0:=HFR.out.2 0;have m1:=HFR.out.2 1;have m2:=HFR.out.2 2;obtain⟨W9,hW9⟩:∃ W,W=((v1.setCell ⟨r,0,none⟩ (.slice none 0 0)).setCell ⟨r,1,none⟩ (.slice none 0 0)).setCell ⟨r,2,none⟩ (.slice none 0 0):=⟨_,rfl⟩
  have HB9:Hid (Below w.heap.size w W9):=by
   unfold Hid;rw[hW9];exact ((HKc.out.below.setCell (p:=⟨r,0,none⟩) hwr _).setCell (p:=⟨r,1,none⟩) hwr _).setCell (p:=⟨r,2,none⟩) hwr _
  have l0:W9.cell? ⟨r,0,none⟩=some (.slice none 0 0):=by rw[hW9];go_simp
  have l1:W9.cell? ⟨r,1,none⟩=some (.slice none 0 0):=by rw[hW9];go_simp
  have l2:W9.cell? ⟨r,2,none⟩=some (.slice none 0 0):=by rw[hW9];go_simp
  have HW9:=Lib.hid hW9;clear hW9;go_wp2_with fail;rw[← HW9.out];refine bodyPost_ret (v:=.tuple #[.agg #[.slice none 0 0,.slice none 0 0,.slice none 0 0],.int .i64 1]) (by simp[results,Tryz.results95,go_sem,l0,l1,l2]) rfl ⟨noneK,1,none,0,0,none,0,0,none,0,0,rfl,OwC.no _ _,Lib.hid (And.intro (fun h=>by rw[HOK.out]at h;cases h) (fun _=>⟨HER.out,rfl⟩)),HB9.out⟩
 | true=>
  have HCB:Hid (checkB t a n=true):=(may_iff.1 HMB.out).1;have HKY:Hid (KeyOk s):=(may_iff.1 HMB.out).2;have HTT:Hid (RightT 5 t):=(check_iff.1 HCB.out).1;have HT:Hid (Tr.rightB 5 t=true):=Tr.rightB_iff.2 HTT.out;have HE:Hid (RightE ⟨a,n,⟨#[]⟩,0⟩):=flag_e (check_iff.1 HCB.out).2.1
  have HER:Hid ((4:Int)=er):=by unfold Hid;rw[← HER0.out,HMB.out];rfl
  obtain⟨c0,c1,c2,c3,-⟩:=HKc.out.cj;obtain⟨g,hg⟩:∃ g,g=v1.heap.size:=⟨_,rfl⟩;obtain⟨v2,hv2⟩:∃ W,W=v1.alloc (.cells #[.string s] 9):=⟨_,rfl⟩
  have hb9:Below v1.heap.size v1 v2:=by rw[hv2];exact Dt.box_below _ _ _
  have HS:Hid (Rd v2 v2.heap.size 1 (some ⟨g,0,none⟩) 1 1 (strs [s])):=by unfold Hid;rw[hv2,hg];exact rd_one1 _ _
  have HKc:=Lib.hid (HKc.out.later hb9);have HKR:=Lib.hid (HKR.out.later hb9);have HFR:=Lib.hid (HFR.out.later hb9);have HR:=Lib.hid (RdT.later HR.out hb9);have Hg:=Lib.hid hg;have Hv2:=Lib.hid hv2;clear hb9 hg hv2;go_wp2_with fail;rw[← Hg.out,← Hv2.out];clear c0 c1 c2 c3;refine (get_any t Ae Ak ne nk ce ck v2 [s] (some ⟨g,0,none⟩) 1 1 rfl (by omega) HS.out HN.out.1 (by have:=HN.out.2;omega) HR.out).mono ?_;rintro e v3 ⟨Ge,gn,gc,Gk,gm,gd,rfl,ho,hb9⟩
  have HG:Hid (RdT v3 v3.heap.size (kidAt t.ks s) ⟨Ge,gn,gc⟩ ⟨Gk,gm,gd⟩):=by
   have h:=ho.rd;rw[if_pos HT.out]at h;exact h
  have HKc:=Lib.hid (HKc.out.later hb9);have HKR:=Lib.hid (HKR.out.later hb9);have HFR:=Lib.hid (HFR.out.later hb9);have HR:=Lib.hid (RdT.later HR.out hb9);clear ho hb9 HS
  have HEM:Hid ((gn=0∧gm=0)↔¬s∈keysOf t.ks):=by unfold Hid;rw[kid_none HG.out,kid_some HTT.out];exact not_not.symm
  have HNK:Hid (t.ks.length=nk):=by
   have h:=HR.out;rw[← T.eta t]at h;exact (rd_lens h).2
  obtain⟨h,hh⟩:∃ g,g=v3.heap.size:=⟨_,rfl⟩;obtain⟨v4,hv4⟩:∃ W,W=v3.alloc (.cells #[.slice Ge gn gc,.slice Gk gm gd] 35):=⟨_,rfl⟩
  have hb9:Below v3.heap.size v3 v4:=by rw[hv4];exact Dt.box_below _ _ _
  have b0:v4.cell? ⟨h,0,none⟩=some (.slice Ge gn gc):=by rw[hv4,hh];go_simp
  have b1:v4.cell? ⟨h,1,none⟩=some (.slice Gk gm gd):=by rw[hv4,hh];go_simp
  have HKc:=Lib.hid (HKc.out.later hb9);have HKR:=Lib.hid (HKR.out.later hb9);have HFR:=Lib.hid (HFR.out.later hb9);have HR:=Lib.hid (RdT.later HR.out hb9);have HG:=Lib.hid (RdT.later HG.out hb9);have HKc:=Lib.hid ((HKc.out.cons_of b1).cons_of b0);have Hh:=Lib.hid hh;have Hv4:=Lib.hid hv4;clear hb9 hh hv4 b0 b1;obtain⟨c0,c1,c2,c3,c4,c5,-⟩:=HKc.out.cj;rw[Hv4.out]at c0 c1 c2 c3 c4 c5;rw[Hh.out]at c0 c1;go_wp2_with fail;rw[← Hh.out,← Hv4.out];clear c0 c1 c2 c3 c4 c5;obtain⟨y,hy⟩:∃ y,decide (gn=0∧gm=0)=y:=⟨_,rfl⟩;refine (empty_any Ge Gk gn gm gc gd v4).mono ?_;rw[hy];rintro e v5 ⟨rfl,hb9⟩;have HKc:=Lib.hid (HKc.out.later hb9);have HKR:=Lib.hid (HKR.out.later hb9);have HFR:=Lib.hid (HFR.out.later hb9);have HR:=Lib.hid (RdT.later HR.out hb9);have HG:=Lib.hid (RdT.later HG.out hb9);have HY:=Lib.hid hy;clear hb9 hy
  cases y with
  | false=>
   have HOK:Hid (ok=true):=by
    have h:=of_decide_eq_false HY.out;unfold Hid;rw[← HOK0.out];unfold roomB;rw[HMB.out,decide_eq_true (p:=s∈keysOf t.ks) (Classical.byContradiction fun h2=>h (HEM.out.2 h2)),Bool.or_true];rfl
   obtain⟨c0,c1,c2,c3,c4,c5,-⟩:=HKc.out.cj;go_wp2_with fail;clear c0 c1 c2 c3 c4 c5;refine (enable_any (kidAt t.ks s) Ge Gk gn gm gc gd a n v5 (LenT.few (by have:=nodes_kid_at t s;have:=HN.out.2;omega)) (by have:=nodes_kid_at t s;have:=HN.out.2;omega) HG.out).mono ?_;rintro e v6 ⟨k,z9,De,dn,dc,Dk,dm,dd,Rc,rq,re,rfl,how,hz9,hb9⟩;obtain⟨rfl,hk1,hna,hu⟩:=hz9.out.1 (kid_check HCB.out);have hrlo:r<v5.heap.size:=HFR.out.1;have HRV:Hid (k.2.length=rq∧RO v6 (fun b=>r<b) 3 Rc rq re (spsC k.2)):=⟨how.out.len,how.out.ctx.mono fun b hb _=>Nat.lt_of_lt_of_le hrlo hb⟩;have HDT:=Lib.hid how.out.rdT;have HU:Hid (k.1=oneT ⟨a,n,⟨#[]⟩,0⟩∧rq≤4*nodes t+4∧∃ u,OfC (dl (kidAt t.ks s)) u∧PutC uniF u (oneC a n) k.2):=⟨hk1,by have:=nodes_kid_at t s;omega,hu⟩;have HKc:=Lib.hid (HKc.out.later hb9);have HKR:=Lib.hid (HKR.out.later hb9)
   have HFR:=Lib.hid (HFR.out.later hb9);have HR:=Lib.hid (RdT.later HR.out hb9);clear how hz9 hb9 hk1 hna hu hrlo;obtain⟨d,hd⟩:∃ g,g=v6.heap.size:=⟨_,rfl⟩;obtain⟨v7,hv7⟩:∃ W,W=v6.alloc (.cells #[.slice De dn dc,.slice Dk dm dd,.slice Rc rq re] 42):=⟨_,rfl⟩
   have hb9:Below v6.heap.size v6 v7:=by rw[hv7];exact Dt.box_below _ _ _
   have b0:v7.cell? ⟨d,0,none⟩=some (.slice De dn dc):=by rw[hv7,hd];go_simp
   have b1:v7.cell? ⟨d,1,none⟩=some (.slice Dk dm dd):=by rw[hv7,hd];go_simp
   have b2:v7.cell? ⟨d,2,none⟩=some (.slice Rc rq re):=by rw[hv7,hd];go_simp
   have HKc:=Lib.hid (HKc.out.later hb9);have HKR:=Lib.hid (HKR.out.later hb9);have HFR:=Lib.hid (HFR.out.later hb9);have HR:=Lib.hid (RdT.later HR.out hb9);have HDT:=Lib.hid (RdT.later HDT.out hb9);have HRV:=Lib.hid (And.intro HRV.out.1 (HRV.out.2.keep hb9.size fun b _ hlt=>hb9.block b hlt));have HKc:=Lib.hid (((HKc.out.cons_of b2).cons_of b1).cons_of b0);have Hd:=Lib.hid hd;have Hv7:=Lib.hid hv7;clear hb9 hd hv7 b0 b1 b2;obtain⟨c0,c1,c2,c3,c4,c5,c6,c7,c8,-⟩:=HKc.out.cj;rw[Hv7.out]at c0 c1 c2 c3 c4 c5 c6 c7 c8;rw[Hd.out]at c0 c1 c2
   have hs0:v7.heap.size=d+1:=by rw[Hv7.out,Hd.out];simp
   obtain⟨g2,hg2⟩:∃ z,z=d+1:=⟨_,rfl⟩;obtain⟨v8,hv8⟩:∃ W,W=v7.alloc (.cells #[.string s] 9):=⟨_,rfl⟩
   have hb9:Below v7.heap.size v7 v8:=by rw[hv8];exact Dt.box_below _ _ _
   have HS:Hid (Rd v8 v8.heap.size 1 (some ⟨g2,0,none⟩) 1 1 (strs [s])):=by unfold Hid;rw[hv8,hg2,← hs0];exact rd_one1 _ _
   have HKc:=Lib.hid (HKc.out.later hb9);have HKR:=Lib.hid (HKR.out.later hb9);have HFR:=Lib.hid (HFR.out.later hb9);have HR:=Lib.hid (RdT.later HR.out hb9);have HDT:=Lib.hid (RdT.later HDT.out hb9);have HRV:=Lib.hid (And.intro HRV.out.1 (HRV.out.2.keep hb9.size fun b _ hlt=>hb9.block b hlt));have Hg2:=Lib.hid hg2;have Hv8:=Lib.hid hv8;clear hs0 hb9 hg2 hv8;go_wp2_with fail;rw[← Hd.out,← Hv7.out,← Hg2.out,← Hv8.out];clear c0 c1 c2 c3 c4 c5 c6 c7 c8;refine (wrap_any k.1 De Dk dn dm dc dd [s] (some ⟨g2,0,none⟩) 1 1 v8 rfl (by omega) HS.out (LenT.few (by rw[HU.out.1,nodes_one];omega)) (by rw[HU.out.1,nodes_one];omega) HDT.out).mono ?_;rw[HU.out.1,wrapE_one HE.out HKY.out,wrapR_one HE.out HKY.out];rintro e v9 ⟨Re,rn,rc,Rk,rm,rd,rfl,ho,hb9⟩;have hrlo:r<v8.heap.size:=HFR.out.1;have HRT:Hid (RdO v9 (fun b=>r<b) (wrapT (oneT ⟨a,n,⟨#[]⟩,0⟩) [s]) ⟨Re,rn,rc⟩ ⟨Rk,rm,rd⟩):=RdO.mono (fun b hb _=>Nat.lt_of_lt_of_le hrlo hb) _ ho
   have HKc:=Lib.hid (HKc.out.later hb9);have HKR:=Lib.hid (HKR.out.later hb9);have HFR:=Lib.hid (HFR.out.later hb9);have HR:=Lib.hid (RdT.later HR.out hb9);have HDT:=Lib.hid (RdT.later HDT.out hb9);have HRV:=Lib.hid (And.intro HRV.out.1 (HRV.out.2.keep hb9.size fun b _ hlt=>hb9.block b hlt));clear ho hb9 hrlo HS;obtain⟨i,hi⟩:∃ g,g=v9.heap.size:=⟨_,rfl⟩;obtain⟨v10,hv10⟩:∃ W,W=v9.alloc (.cells #[.slice Re rn rc,.slice Rk rm rd] 35):=⟨_,rfl⟩
   have hb9:Below v9.heap.size v9 v10:=by rw[hv10];exact Dt.box_below _ _ _
   have b0:v10.cell? ⟨i,0,none⟩=some (.slice Re rn rc):=by rw[hv10,hi];go_simp
   have b1:v10.cell? ⟨i,1,none⟩=some (.slice Rk rm rd):=by rw[hv10,hi];go_simp
   have HKc:=Lib.hid (HKc.out.later hb9);have HKR:=Lib.hid (HKR.out.later hb9);have HFR:=Lib.hid (HFR.out.later hb9);have HR:=Lib.hid (RdT.later HR.out hb9);have HDT:=Lib.hid (RdT.later HDT.out hb9);have HRV:=Lib.hid (And.intro HRV.out.1 (HRV.out.2.keep hb9.size fun b _ hlt=>hb9.block b hlt));have HRT:=Lib.hid (RdO.later HRT.out hb9);have HKc:=Lib.hid ((HKc.out.cons_of b1).cons_of b0);have Hi:=Lib.hid hi;have Hv10:=Lib.hid hv10;clear hb9 hi hv10 b0 b1;obtain⟨c0,c1,c2,c3,c4,c5,c6,c7,c8,c9,c10,-⟩:=HKc.out.cj;rw[Hv10.out]at c0 c1 c2 c3 c4 c5 c6 c7 c8 c9 c10;rw[Hi.out]at c0 c1;obtain⟨z0,z1,z2,-⟩:=HKR.out.cj;have m0:=HFR.out.2 0;have m1:=HFR.out.2 1;have m2:=HFR.out.2 2;obtain⟨W9,hW9⟩:∃ W,W=((v10.setCell ⟨r,0,none⟩ (.slice Re rn rc)).setCell ⟨r,1,none⟩ (.slice Rk rm rd)).setCell ⟨r,2,none⟩ (.slice Rc rq re):=⟨_,rfl⟩
   have HB9:Hid (Below w.heap.size w W9):=by
    unfold Hid;rw[hW9];exact ((HKc.out.below.setCell (p:=⟨r,0,none⟩) hwr _).setCell (p:=⟨r,1,none⟩) hwr _).setCell (p:=⟨r,2,none⟩) hwr _
   have HO9:Hid (OwC W9 w.heap.size (wrapT (oneT ⟨a,n,⟨#[]⟩,0⟩) [s],k.2) Re rn rc Rk rm rd Rc rq re):=by
    unfold Hid;rw[hW9];exact⟨RdO.mono (fun b hb _=>Nat.le_trans hwr (Nat.le_of_lt hb)) _ (RdO.keep (by rw[cells3];exact Nat.le_refl _) (fun b hb _=>cells3_at b (by omega)) _ HRT.out),HRV.out.1,(HRV.out.2.keep (by rw[cells3];exact Nat.le_refl _) (fun b hb _=>cells3_at b (by omega))).mono fun b hb _=>Nat.le_trans hwr (Nat.le_of_lt hb)⟩
   have l0:W9.cell? ⟨r,0,none⟩=some (.slice Re rn rc):=by rw[hW9];go_simp
   have l1:W9.cell? ⟨r,1,none⟩=some (.slice Rk rm rd):=by rw[hW9];go_simp
   have l2:W9.cell? ⟨r,2,none⟩=some (.slice Rc rq re):=by rw[hW9];go_simp
   have HW9:=Lib.hid hW9;clear hW9;rw[Hv10.out]at z0 z1 z2 m0 m1 m2;go_wp2_with fail;rw[← Hi.out,← Hv10.out,← HW9.out];refine bodyPost_ret (v:=.tuple #[.agg #[.slice Re rn rc,.slice Rk rm rd,.slice Rc rq re],.int .i64 0]) (by simp[results,Tryz.results95,go_sem,l0,l1,l2]) rfl ⟨(wrapT (oneT ⟨a,n,⟨#[]⟩,0⟩) [s],k.2),0,Re,rn,rc,Rk,rm,rd,Rc,rq,re,rfl,HO9.out,Lib.hid (And.intro (fun _=>⟨rfl,rfl,HU.out.2.1,HU.out.2.2⟩) (fun h=>by rw[HOK.out]at h;cases h)),HB9.out⟩
  | true=>
   have HNO:Hid (¬s∈keysOf t.ks):=HEM.out.1 (of_decide_eq_true HY.out)
   by_cases h24:24≤nk
   ·have f24:decide ((24:Int)≤(nk:Int))=true:=by simp;omega
    have HOK:Hid (ok=false):=by
     unfold Hid;rw[← HOK0.out];unfold roomB;rw[decide_eq_false HNO.out,decide_eq_false (by rw[HNK.out];omega)];simp
    obtain⟨c0,c1,c2,c3,c4,c5,-⟩:=HKc.out.cj;obtain⟨z0,z1,z2,-⟩:=HKR.out.cj;have m0:=HFR.out.2 0;have m1:=HFR.out.2 1;have m2:=HFR.out.2 2;obtain⟨W9,hW9⟩:∃ W,W=((v5.setCell ⟨r,0,none⟩ (.slice none 0 0)).setCell ⟨r,1,none⟩ (.slice none 0 0)).setCell ⟨r,2,none⟩ (.slice none 0 0):=⟨_,rfl⟩
    have HB9:Hid (Below w.heap.size w W9):=by
     unfold Hid;rw[hW9];exact ((HKc.out.below.setCell (p:=⟨r,0,none⟩) hwr _).setCell (p:=⟨r,1,none⟩) hwr _).setCell (p:=⟨r,2,none⟩) hwr _
    have l0:W9.cell? ⟨r,0,none⟩=some (.slice none 0 0):=by rw[hW9];go_simp
    have l1:W9.cell? ⟨r,1,none⟩=some (.slice none 0 0):=by rw[hW9];go_simp
    have l2:W9.cell? ⟨r,2,none⟩=some (.slice none 0 0):=by rw[hW9];go_simp
    have HW9:=Lib.hid hW9;clear hW9;go_wp2_with fail;rw[← HW9.out];refine bodyPost_ret (v:=.tuple #[.agg #[.slice none 0 0,.slice none 0 0,.slice none 0 0],.int .i64 4]) (by simp[results,Tryz.results95,go_sem,l0,l1,l2]) rfl ⟨noneK,4,none,0,0,none,0,0,none,0,0,rfl,OwC.no _ _,Lib.hid (And.intro (fun h=>by rw[HOK.out]at h;cases h) (fun _=>⟨HER.out,rfl⟩)),HB9.out⟩
   ·have f24:decide ((24:Int)≤(nk:Int))=false:=by simp;omega
    have HOK:Hid (ok=true):=by
     unfold Hid;rw[← HOK0.out];unfold roomB;rw[HMB.out,decide_eq_true (p:=t.ks.length<24) (by rw[HNK.out];omega)];rfl
    obtain⟨c0,c1,c2,c3,c4,c5,-⟩:=HKc.out.cj;go_wp2_with fail;clear c0 c1 c2 c3 c4 c5;refine (enable_any (kidAt t.ks s) Ge Gk gn gm gc gd a n v5 (LenT.few (by have:=nodes_kid_at t s;have:=HN.out.2;omega)) (by have:=nodes_kid_at t s;have:=HN.out.2;omega) HG.out).mono ?_;rintro e v6 ⟨k,z9,De,dn,dc,Dk,dm,dd,Rc,rq,re,rfl,how,hz9,hb9⟩;obtain⟨rfl,hk1,hna,hu⟩:=hz9.out.1 (kid_check HCB.out);have hrlo:r<v5.heap.size:=HFR.out.1;have HRV:Hid (k.2.length=rq∧RO v6 (fun b=>r<b) 3 Rc rq re (spsC k.2)):=⟨how.out.len,how.out.ctx.mono fun b hb _=>Nat.lt_of_lt_of_le hrlo hb⟩;have HDT:=Lib.hid how.out.rdT;have HU:Hid (k.1=oneT ⟨a,n,⟨#[]⟩,0⟩∧rq≤4*nodes t+4∧∃ u,OfC (dl (kidAt t.ks s)) u∧PutC uniF u (oneC a n) k.2):=⟨hk1,by have:=nodes_kid_at t s;omega,hu⟩;have HKc:=Lib.hid (HKc.out.later hb9);have HKR:=Lib.hid (HKR.out.later hb9)
    have HFR:=Lib.hid (HFR.out.later hb9);have HR:=Lib.hid (RdT.later HR.out hb9);clear how hz9 hb9 hk1 hna hu hrlo;obtain⟨d,hd⟩:∃ g,g=v6.heap.size:=⟨_,rfl⟩;obtain⟨v7,hv7⟩:∃ W,W=v6.alloc (.cells #[.slice De dn dc,.slice Dk dm dd,.slice Rc rq re] 42):=⟨_,rfl⟩
    have hb9:Below v6.heap.size v6 v7:=by rw[hv7];exact Dt.box_below _ _ _
    have b0:v7.cell? ⟨d,0,none⟩=some (.slice De dn dc):=by rw[hv7,hd];go_simp
    have b1:v7.cell? ⟨d,1,none⟩=some (.slice Dk dm dd):=by rw[hv7,hd];go_simp
    have b2:v7.cell? ⟨d,2,none⟩=some (.slice Rc rq re):=by rw[hv7,hd];go_simp
    have HKc:=Lib.hid (HKc.out.later hb9);have HKR:=Lib.hid (HKR.out.later hb9);have HFR:=Lib.hid (HFR.out.later hb9);have HR:=Lib.hid (RdT.later HR.out hb9);have HDT:=Lib.hid (RdT.later HDT.out hb9);have HRV:=Lib.hid (And.intro HRV.out.1 (HRV.out.2.keep hb9.size fun b _ hlt=>hb9.block b hlt));have HKc:=Lib.hid (((HKc.out.cons_of b2).cons_of b1).cons_of b0);have Hd:=Lib.hid hd;have Hv7:=Lib.hid hv7;clear hb9 hd hv7 b0 b1 b2;obtain⟨c0,c1,c2,c3,c4,c5,c6,c7,c8,-⟩:=HKc.out.cj;rw[Hv7.out]at c0 c1 c2 c3 c4 c5 c6 c7 c8;rw[Hd.out]at c0 c1 c2
    have hs0:v7.heap.size=d+1:=by rw[Hv7.out,Hd.out];simp
    obtain⟨g2,hg2⟩:∃ z,z=d+1:=⟨_,rfl⟩;obtain⟨v8,hv8⟩:∃ W,W=v7.alloc (.cells #[.string s] 9):=⟨_,rfl⟩
    have hb9:Below v7.heap.size v7 v8:=by rw[hv8];exact Dt.box_below _ _ _
    have HS:Hid (Rd v8 v8.heap.size 1 (some ⟨g2,0,none⟩) 1 1 (strs [s])):=by unfold Hid;rw[hv8,hg2,← hs0];exact rd_one1 _ _
    have HKc:=Lib.hid (HKc.out.later hb9);have HKR:=Lib.hid (HKR.out.later hb9);have HFR:=Lib.hid (HFR.out.later hb9);have HR:=Lib.hid (RdT.later HR.out hb9);have HDT:=Lib.hid (RdT.later HDT.out hb9);have HRV:=Lib.hid (And.intro HRV.out.1 (HRV.out.2.keep hb9.size fun b _ hlt=>hb9.block b hlt));have Hg2:=Lib.hid hg2;have Hv8:=Lib.hid hv8;clear hs0 hb9 hg2 hv8;go_wp2_with fail;rw[← Hd.out,← Hv7.out,← Hg2.out,← Hv8.out];clear c0 c1 c2 c3 c4 c5 c6 c7 c8;refine (wrap_any k.1 De Dk dn dm dc dd [s] (some ⟨g2,0,none⟩) 1 1 v8 rfl (by omega) HS.out (LenT.few (by rw[HU.out.1,nodes_one];omega)) (by rw[HU.out.1,nodes_one];omega) HDT.out).mono ?_;rw[HU.out.1,wrapE_one HE.out HKY.out,wrapR_one HE.out HKY.out];rintro e v9 ⟨Re,rn,rc,Rk,rm,rd,rfl,ho,hb9⟩;have hrlo:r<v8.heap.size:=HFR.out.1;have HRT:Hid (RdO v9 (fun b=>r<b) (wrapT (oneT ⟨a,n,⟨#[]⟩,0⟩) [s]) ⟨Re,rn,rc⟩ ⟨Rk,rm,rd⟩):=RdO.mono (fun b hb _=>Nat.lt_of_lt_of_le hrlo hb) _ ho
    have HKc:=Lib.hid (HKc.out.later hb9);have HKR:=Lib.hid (HKR.out.later hb9);have HFR:=Lib.hid (HFR.out.later hb9);have HR:=Lib.hid (RdT.later HR.out hb9);have HDT:=Lib.hid (RdT.later HDT.out hb9);have HRV:=Lib.hid (And.intro HRV.out.1 (HRV.out.2.keep hb9.size fun b _ hlt=>hb9.block b hlt));clear ho hb9 hrlo HS;obtain⟨i,hi⟩:∃ g,g=v9.heap.size:=⟨_,rfl⟩;obtain⟨v10,hv10⟩:∃ W,W=v9.alloc (.cells #[.slice Re rn rc,.slice Rk rm rd] 35):=⟨_,rfl⟩
    have hb9:Below v9.heap.size v9 v10:=by rw[hv10];exact Dt.box_below _ _ _
    have b0:v10.cell? ⟨i,0,none⟩=some (.slice Re rn rc):=by rw[hv10,hi];go_simp
    have b1:v10.cell? ⟨i,1,none⟩=some (.slice Rk rm rd):=by rw[hv10,hi];go_simp
    have HKc:=Lib.hid (HKc.out.later hb9);have HKR:=Lib.hid (HKR.out.later hb9);have HFR:=Lib.hid (HFR.out.later hb9);have HR:=Lib.hid (RdT.later HR.out hb9);have HDT:=Lib.hid (RdT.later HDT.out hb9);have HRV:=Lib.hid (And.intro HRV.out.1 (HRV.out.2.keep hb9.size fun b _ hlt=>hb9.block b hlt));have HRT:=Lib.hid (RdO.later HRT.out hb9);have HKc:=Lib.hid ((HKc.out.cons_of b1).cons_of b0);have Hi:=Lib.hid hi;have Hv10:=Lib.hid hv10;clear hb9 hi hv10 b0 b1;obtain⟨c0,c1,c2,c3,c4,c5,c6,c7,c8,c9,c10,-⟩:=HKc.out.cj;rw[Hv10.out]at c0 c1 c2 c3 c4 c5 c6 c7 c8 c9 c10;rw[Hi.out]at c0 c1;obtain⟨z0,z1,z2,-⟩:=HKR.out.cj;have m0:=HFR.out.2 0;have m1:=HFR.out.2 1;have m2:=HFR.out.2 2;obtain⟨W9,hW9⟩:∃ W,W=((v10.setCell ⟨r,0,none⟩ (.slice Re rn rc)).setCell ⟨r,1,none⟩ (.slice Rk rm rd)).setCell ⟨r,2,none⟩ (.slice Rc rq re):=⟨_,rfl⟩
    have HB9:Hid (Below w.heap.size w W9):=by
     unfold Hid;rw[hW9];exact ((HKc.out.below.setCell (p:=⟨r,0,none⟩) hwr _).setCell (p:=⟨r,1,none⟩) hwr _).setCell (p:=⟨r,2,none⟩) hwr _
    have HO9:Hid (OwC W9 w.heap.size (wrapT (oneT ⟨a,n,⟨#[]⟩,0⟩) [s],k.2) Re rn rc Rk rm rd Rc rq re):=by
     unfold Hid;rw[hW9];exact⟨RdO.mono (fun b hb _=>Nat.le_trans hwr (Nat.le_of_lt hb)) _ (RdO.keep (by rw[cells3];exact Nat.le_refl _) (fun b hb _=>cells3_at b (by omega)) _ HRT.out),HRV.out.1,(HRV.out.2.keep (by rw[cells3];exact Nat.le_refl _) (fun b hb _=>cells3_at b (by omega))).mono fun b hb _=>Nat.le_trans hwr (Nat.le_of_lt hb)⟩
    have l0:W9.cell? ⟨r,0,none⟩=some (.slice Re rn rc):=by rw[hW9];go_simp
    have l1:W9.cell? ⟨r,1,none⟩=some (.slice Rk rm rd):=by rw[hW9];go_simp
    have l2:W9.cell? ⟨r,2,none⟩=some (.slice Rc rq re):=by rw[hW9];go_simp
    have HW9:=Lib.hid hW9;clear hW9;rw[Hv10.out]at z0 z1 z2 m0 m1 m2;go_wp2_with fail;rw[← Hi.out,← Hv10.out,← HW9.out];refine bodyPost_ret (v:=.tuple #[.agg #[.slice Re rn rc,.slice Rk rm rd,.slice Rc rq re],.int .i64 0]) (by simp[results,Tryz.results95,go_sem,l0,l1,l2]) rfl ⟨(wrapT (oneT ⟨a,n,⟨#[]⟩,0⟩) [s],k.2),0,Re,rn,rc,Rk,rm,rd,Rc,rq,re,rfl,HO9.out,Lib.hid (And.intro (fun _=>⟨rfl,rfl,HU.out.2.1,HU.out.2.2⟩) (fun h=>by rw[HOK.out]at h;cases h)),HB9.out⟩
end Cs
end Go.Proofs.YtgeafpaognhokaaGreat
namespace Go.Proofs.YtgeafpaognhokaaGreat
open Go.ChangeShapes Go.WideShapes Go.ChangeAt Go.RowKit
namespace Cs
open Tr Cx Sp Rw Classical
theorem wrapE_three (t:T) (p:List ByteArray):wrapE t p=0∨wrapE t p=1∨wrapE t p=10:=by
 unfold wrapE
 split
 ·exact .inr (.inl rfl)
 ·split
  ·exact .inr (.inr rfl)
  ·split
   ·exact .inl rfl
   ·split
    ·exact .inr (.inr rfl)
    ·exact .inl rfl
noncomputable def mroomB (t:T) (key:ByteArray) (x:T):Bool:=decide (x.es=[]∧x.ks=[])||roomB t key
noncomputable def updE (t:T) (key:ByteArray) (kd:K):Int:=if (Tr.rightB 5 t&&rightKB kd)=true then (if wrapE kd.1 [key]=1 then 1 else if mroomB t key kd.1=true then wrapE kd.1 [key]else 4)else 1
noncomputable def updK (t:T) (key:ByteArray) (kd:K):K:=if updE t key kd=0 then (wrapR kd.1 [key],kd.2)else noneK
theorem updE_of {t:T} {key:ByteArray} {kd:K} {x:Int} (h1:Tr.rightB 5 t=true) (h2:rightKB kd=true) (h:wrapE kd.1 [key]=x) (h3:¬x=1):updE t key kd=if mroomB t key kd.1=true then x else 4:=by
 unfold updE;rw[h1,h2,if_pos (by rfl),h,if_neg h3]
theorem updE_bad {t:T} {key:ByteArray} {kd:K} (h:Tr.rightB 5 t=false∨rightKB kd=false∨wrapE kd.1 [key]=1):updE t key kd=1:=by
 unfold updE
 rcases h with h | h | h
 ·rw[h];rfl
 ·rw[h,Bool.and_false];rfl
 ·rw[h,if_pos rfl,ite_self]
theorem upd_ok {t:T} {key:ByteArray} {kd:K} (h:updE t key kd=0):Tr.rightB 5 t=true∧rightKB kd=true∧wrapE kd.1 [key]=0∧updK t key kd=(wrapR kd.1 [key],kd.2):=by
 have hk:updK t key kd=(wrapR kd.1 [key],kd.2):=by unfold updK;rw[if_pos h]
 unfold updE at h
 by_cases h1:(Tr.rightB 5 t&&rightKB kd)=true
 ·rw[if_pos h1]at h
  rw[Bool.and_eq_true]at h1
  by_cases h2:wrapE kd.1 [key]=1
  ·rw[if_pos h2]at h;cases h
  ·rw[if_neg h2]at h
   by_cases h3:mroomB t key kd.1=true
   ·rw[if_pos h3]at h
    exact⟨h1.1,h1.2,h,hk⟩
   ·rw[if_neg h3]at h;cases h
 ·rw[if_neg h1]at h;cases h
theorem upd_not {t:T} {key:ByteArray} {kd:K} (h:¬updE t key kd=0):updK t key kd=noneK:=by unfold updK;rw[if_neg h]
end Cs
end Go.Proofs.YtgeafpaognhokaaGreat
namespace Go.Proofs.YtgeafpaognhokaaGreat
open Go.ChangeShapes Go.WideShapes Go.ChangeAt Go.RowKit
namespace Cs
open Tr Cx Sp Rw Classical
noncomputable def incB (t:T) (v a n:Int):Bool:=checkB t a n&&decide (-1099511627776≤v∧v≤1099511627776)&&decide (t.es.length<24)
noncomputable def incE (t:T) (v a n:Int):Int:=if checkB t a n=true∧(-1099511627776≤v∧v≤1099511627776)then 4 else 1
theorem inc_yes {t:T} {v a n:Int} (h1:checkB t a n=true) (h2 : -1099511627776≤v∧v≤1099511627776) (h3:t.es.length<24):incB t v a n=true:=by
 unfold incB;rw[h1,decide_eq_true h2,decide_eq_true h3];rfl
theorem inc_no1 {t:T} {v a n:Int} (h:checkB t a n=false):incB t v a n=false:=by
 unfold incB;rw[h,Bool.false_and,Bool.false_and]
theorem inc_no2 {t:T} {v a n:Int} (h:¬(-1099511627776≤v∧v≤1099511627776)):incB t v a n=false:=by
 unfold incB;rw[decide_eq_false h,Bool.and_false,Bool.false_and]
theorem inc_no3 {t:T} {v a n:Int} (h:¬t.es.length<24):incB t v a n=false:=by
 unfold incB;rw[decide_eq_false h,Bool.and_false]
theorem inc_e1 {t:T} {v a n:Int} (h:checkB t a n=false):incE t v a n=1:=by
 unfold incE;rw[if_neg];rintro⟨h1,_⟩;rw[h]at h1
 cases h1
theorem inc_e2 {t:T} {v a n:Int} (h:¬(-1099511627776≤v∧v≤1099511627776)):incE t v a n=1:=by
 unfold incE;rw[if_neg];rintro⟨_,h1⟩;exact h h1
theorem inc_e4 {t:T} {v a n:Int} (h1:checkB t a n=true) (h2 : -1099511627776≤v∧v≤1099511627776):incE t v a n=4:=by
 unfold incE;rw[if_pos ⟨h1,h2⟩]
def IncIs (lo:Nat) (ok:Bool) (er:Int) (x:E) (w:World) (e:Ending) (w':World):Prop:=∃ (k:K) (z:Int) (Ae:Option Addr) (ne ce:Nat) (Ak:Option Addr) (nk ck:Nat) (Ca:Option Addr) (na ca9:Nat),e = .returned (.tuple #[.agg #[.slice Ae ne ce,.slice Ak nk ck,.slice Ca na ca9],.int .i64 z])∧Hid (OwC w' lo k Ae ne ce Ak nk ck Ca na ca9)∧Hid ((ok=true→z=0∧k=oneK x∧na≤4)∧(ok=false→z=er∧k=noneK))∧Below w.heap.size w w'
set_option maxRecDepth 100000 in
set_option maxHeartbeats 4000000 in
theorem inc_any (t:T) (Ae Ak:Option Addr) (ne nk ce ck:Nat) (v a n:Int) (w:World) (hl:LenT reachBytes t) (hn:nodes t≤1000) (hr:RdT w w.heap.size t ⟨Ae,ne,ce⟩ ⟨Ak,nk,ck⟩) :
  Calls Tryz.prog 97 #[.agg #[.slice Ae ne ce,.slice Ak nk ck],.int .i64 v,.agg #[.int .i64 a,.int .i64 n]] w (IncIs w.heap.size (incB t v a n) (incE t v a n) ⟨a,n,⟨#[]⟩,v⟩ w):=by
 obtain⟨W,p,q,r,HW,HP,HQ,HR0,HKc,HKR,HFR⟩:=boxTDC w Ae Ak ne nk ce ck a n
 have hwr:w.heap.size≤r:=by have:=HP.out;have:=HR0.out;omega
 have hpr:p<r:=by have:=HP.out;have:=HR0.out;omega
 have hqr:q<r:=by have:=HQ.out;have:=HR0.out;omega
 obtain⟨z,hz⟩:∃ z,checkB t a n=z:=⟨_,rfl⟩;have HR:=Lib.hid (RdT.more HKc.out.below.size _ (RdT.below hr HKc.out.below));have HD:=Lib.hid (fcheck_any t Ae Ak ne nk ce ck a n W z hz hl hn HR.out)
 have HLE:Hid (t.es.length=ne):=by
  have h:=hr;rw[← T.eta t]at h;exact (rd_lens h).1
 have HMB:=Lib.hid hz;clear hl hn hr hz;obtain⟨c0,c1,c2,c3,-⟩:=HKc.out.cj;go_enter Tryz.func97,Tryz.ntmps97;go_wp2_with fail;rw[← HP.out,← HW.out]
 try rw[← HR0.out]
 try rw[← HQ.out]
 refine HD.out.mono ?_;rintro e v1 ⟨rfl,hb9⟩;have HKc:=Lib.hid (HKc.out.later hb9);have HKR:=Lib.hid (HKR.out.later hb9);have HFR:=Lib.hid (HFR.out.later hb9);have HR:=Lib.hid (RdT.later HR.out hb9);clear hb9 HD c0 c1 c2 c3
 cases z with
 | false=>
  obtain⟨z0,z1,z2,-⟩:=HKR.out.cj;have m0:=HFR.out.2 0;have m1:=HFR.out.2 1;have m2:=HFR.out.2 2;obtain⟨W9,hW9⟩:∃ W,W=((v1.setCell ⟨r,0,none⟩ (.slice none 0 0)).setCell ⟨r,1,none⟩ (.slice none 0 0)).setCell ⟨r,2,none⟩ (.slice none 0 0):=⟨_,rfl⟩
  have HB9:Hid (Below w.heap.size w W9):=by
   unfold Hid;rw[hW9];exact ((HKc.out.below.setCell (p:=⟨r,0,none⟩) hwr _).setCell (p:=⟨r,1,none⟩) hwr _).setCell (p:=⟨r,2,none⟩) hwr _
  have l0:W9.cell? ⟨r,0,none⟩=some (.slice none 0 0):=by rw[hW9];go_simp
  have l1:W9.cell? ⟨r,1,none⟩=some (.slice none 0 0):=by rw[hW9];go_simp
  have l2:W9.cell? ⟨r,2,none⟩=some (.slice none 0 0):=by rw[hW9];go_simp
  have HW9:=Lib.hid hW9;clear hW9;go_wp2_with fail;rw[← HW9.out];refine bodyPost_ret (v:=.tuple #[.agg #[.slice none 0 0,.slice none 0 0,.slice none 0 0],.int .i64 1]) (by simp[results,Tryz.results97,go_sem,l0,l1,l2]) rfl ⟨noneK,1,none,0,0,none,0,0,none,0,0,rfl,OwC.no _ _,Lib.hid (And.intro (fun h=>by rw[inc_no1 HMB.out]at h;cases h) (fun _=>⟨(inc_e1 HMB.out).symm,rfl⟩)),HB9.out⟩
 | true=>
  by_cases h1:v < -1099511627776
  ·have f1:decide (v < -1099511627776)=true:=decide_eq_true h1
   have HV:Hid (¬(-1099511627776≤v∧v≤1099511627776)):=fun h=>by omega
   clear h1;obtain⟨z0,z1,z2,-⟩:=HKR.out.cj;have m0:=HFR.out.2 0;have m1:=HFR.out.2 1;have m2:=HFR.out.2 2;obtain⟨W9,hW9⟩:∃ W,W=((v1.setCell ⟨r,0,none⟩ (.slice none 0 0)).setCell ⟨r,1,none⟩ (.slice none 0 0)).setCell ⟨r,2,none⟩ (.slice none 0 0):=⟨_,rfl⟩
   have HB9:Hid (Below w.heap.size w W9):=by
    unfold Hid;rw[hW9];exact ((HKc.out.below.setCell (p:=⟨r,0,none⟩) hwr _).setCell (p:=⟨r,1,none⟩) hwr _).setCell (p:=⟨r,2,none⟩) hwr _
   have l0:W9.cell? ⟨r,0,none⟩=some (.slice none 0 0):=by rw[hW9];go_simp
   have l1:W9.cell? ⟨r,1,none⟩=some (.slice none 0 0):=by rw[hW9];go_simp
   have l2:W9.cell? ⟨r,2,none⟩=some (.slice none 0 0):=by rw[hW9];go_simp
   have HW9:=Lib.hid hW9;clear hW9;go_wp2_with fail;rw[← HW9.out];refine bodyPost_ret (v:=.tuple #[.agg #[.slice none 0 0,.slice none 0 0,.slice none 0 0],.int .i64 1]) (by simp[results,Tryz.results97,go_sem,l0,l1,l2]) rfl ⟨noneK,1,none,0,0,none,0,0,none,0,0,rfl,OwC.no _ _,Lib.hid (And.intro (fun h=>by rw[inc_no2 HV.out]at h;cases h) (fun _=>⟨(inc_e2 HV.out).symm,rfl⟩)),HB9.out⟩
  ·have f1:decide (v < -1099511627776)=false:=decide_eq_false h1
   by_cases h2:1099511627776<v
   ·have f2:decide (1099511627776<v)=true:=decide_eq_true h2
    have HV:Hid (¬(-1099511627776≤v∧v≤1099511627776)):=fun h=>by omega
    clear h1 h2;obtain⟨z0,z1,z2,-⟩:=HKR.out.cj;have m0:=HFR.out.2 0;have m1:=HFR.out.2 1;have m2:=HFR.out.2 2;obtain⟨W9,hW9⟩:∃ W,W=((v1.setCell ⟨r,0,none⟩ (.slice none 0 0)).setCell ⟨r,1,none⟩ (.slice none 0 0)).setCell ⟨r,2,none⟩ (.slice none 0 0):=⟨_,rfl⟩
    have HB9:Hid (Below w.heap.size w W9):=by
     unfold Hid;rw[hW9];exact ((HKc.out.below.setCell (p:=⟨r,0,none⟩) hwr _).setCell (p:=⟨r,1,none⟩) hwr _).setCell (p:=⟨r,2,none⟩) hwr _
    have l0:W9.cell? ⟨r,0,none⟩=some (.slice none 0 0):=by rw[hW9];go_simp
    have l1:W9.cell? ⟨r,1,none⟩=some (.slice none 0 0):=by rw[hW9];go_simp
    have l2:W9.cell? ⟨r,2,none⟩=some (.slice none 0 0):=by rw[hW9];go_simp
    have HW9:=Lib.hid hW9;clear hW9;go_wp2_with fail;rw[← HW9.out];refine bodyPost_ret (v:=.tuple #[.agg #[.slice none 0 0,.slice none 0 0,.slice none 0 0],.int .i64 1]) (by simp[results,Tryz.results97,go_sem,l0,l1,l2]) rfl ⟨noneK,1,none,0,0,none,0,0,none,0,0,rfl,OwC.no _ _,Lib.hid (And.intro (fun h=>by rw[inc_no2 HV.out]at h;cases h) (fun _=>⟨(inc_e2 HV.out).symm,rfl⟩)),HB9.out⟩
   ·have f2:decide (1099511627776<v)=false:=decide_eq_false h2
    have HV:Hid (-1099511627776≤v∧v≤1099511627776):=⟨by omega,by omega⟩;clear h1 h2;obtain⟨c0,c1,c2,c3,-⟩:=HKc.out.cj
    by_cases h24:24≤ne
    ·have f24:decide ((24:Int)≤(ne:Int))=true:=decide_eq_true (by omega)
     have HNL:Hid (¬t.es.length<24):=fun h=>by rw[HLE.out]at h;omega
     clear h24;obtain⟨z0,z1,z2,-⟩:=HKR.out.cj;have m0:=HFR.out.2 0;have m1:=HFR.out.2 1;have m2:=HFR.out.2 2;obtain⟨W9,hW9⟩:∃ W,W=((v1.setCell ⟨r,0,none⟩ (.slice none 0 0)).setCell ⟨r,1,none⟩ (.slice none 0 0)).setCell ⟨r,2,none⟩ (.slice none 0 0):=⟨_,rfl⟩
     have HB9:Hid (Below w.heap.size w W9):=by
      unfold Hid;rw[hW9];exact ((HKc.out.below.setCell (p:=⟨r,0,none⟩) hwr _).setCell (p:=⟨r,1,none⟩) hwr _).setCell (p:=⟨r,2,none⟩) hwr _
     have l0:W9.cell? ⟨r,0,none⟩=some (.slice none 0 0):=by rw[hW9];go_simp
     have l1:W9.cell? ⟨r,1,none⟩=some (.slice none 0 0):=by rw[hW9];go_simp
     have l2:W9.cell? ⟨r,2,none⟩=some (.slice none 0 0):=by rw[hW9];go_simp
     have HW9:=Lib.hid hW9;clear hW9;go_wp2_with fail;rw[← HW9.out];refine bodyPost_ret (v:=.tuple #[.agg #[.slice none 0 0,.slice none 0 0,.slice none 0 0],.int .i64 4]) (by simp[results,Tryz.results97,go_sem,l0,l1,l2]) rfl ⟨noneK,4,none,0,0,none,0,0,none,0,0,rfl,OwC.no _ _,Lib.hid (And.intro (fun h=>by rw[inc_no3 HNL.out]at h;cases h) (fun _=>⟨(inc_e4 HMB.out HV.out).symm,rfl⟩)),HB9.out⟩
    ·have f24:decide ((24:Int)≤(ne:Int))=false:=decide_eq_false (by omega)
     have HLL:Hid (t.es.length<24):=by unfold Hid;rw[HLE.out];omega
     have HDD:Hid (Dt.rightB a n=true):=(check_iff.1 HMB.out).2.1;clear h24;obtain⟨g,hg⟩:∃ g,g=v1.heap.size:=⟨_,rfl⟩;obtain⟨v2,hv2⟩:∃ W,W=v1.alloc (.cells #[.int .i64 a,.int .i64 n] 37):=⟨_,rfl⟩
     have hb9:Below v1.heap.size v1 v2:=by rw[hv2];exact Dt.box_below _ _ _
     have hd1:=rd_dot1 v1 a n 37;rw[← hv2,← hg]at hd1;have HOF:=Lib.hid (ofC_own [(a,n)] 1 (some ⟨g,0,none⟩) 1 v2 rfl (by omega) (hd1.more (by rw[hv2];simp;omega)));have HKc:=Lib.hid (HKc.out.later hb9);have HKR:=Lib.hid (HKR.out.later hb9);have HFR:=Lib.hid (HFR.out.later hb9);have HR:=Lib.hid (RdT.later HR.out hb9);have Hg:=Lib.hid hg;have Hv2:=Lib.hid hv2;clear hb9 hd1 hg hv2;go_wp2_with fail;rw[← Hg.out,← Hv2.out];clear c0 c1 c2 c3;refine HOF.out.mono ?_;rintro e v3 (⟨_,o,mo,Ao,co,bo,rfl,ho1,ho2,hmo,hro,hb9⟩ | ⟨hno,rfl,hb3⟩)
     ·obtain rfl:o=oneC a n:=ho2.out.eq (of_oneC HDD.out)
      have hbo:w.heap.size≤bo:=Nat.le_trans HKc.out.below.size hro.out.1;have hrb:r<bo:=Nat.lt_of_lt_of_le HFR.out.1 hro.out.1;have HRC:Hid (RO v3 (fun b=>bo≤b) 3 Ao mo co (spsC (oneC a n))):=(RO.of_own hro.out.2).mono fun b hb _=>hb.1;have HMO:Hid ((oneC a n).length=mo∧mo≤4):=⟨ho1.out,by omega⟩;have HKc:=Lib.hid (HKc.out.later hb9);have HKR:=Lib.hid (HKR.out.later hb9);have HFR:=Lib.hid (HFR.out.later hb9);have HR:=Lib.hid (RdT.later HR.out hb9);have c2:=HKc.out.c2;have c3:=HKc.out.c3;obtain⟨z0,z1,z2,-⟩:=HKR.out.cj;have m0:=HFR.out.2 0;have m1:=HFR.out.2 1;have m2:=HFR.out.2 2;have hrv:r<v3.heap.size:=HFR.out.1;obtain⟨h,hh⟩:∃ g,g=v3.heap.size:=⟨_,rfl⟩;obtain⟨W8,hW8⟩:∃ W,W=((v3.setCell ⟨r,0,none⟩ (.slice (some ⟨h,0,none⟩) 1 1)).setCell ⟨r,1,none⟩ (.slice none 0 0)).setCell ⟨r,2,none⟩ (.slice Ao mo co):=⟨_,rfl⟩
      obtain⟨W9,hW9⟩:∃ W,W=W8.alloc (.cells #[.int .i64 a,.int .i64 n,.string ⟨#[]⟩,.int .i64 v] 97):=⟨_,rfl⟩
      have hs8:W8.heap.size=h:=by rw[hW8,cells3,hh]
      have hb8:Below w.heap.size w W8:=by
       rw[hW8];exact ((HKc.out.below.setCell (p:=⟨r,0,none⟩) hwr _).setCell (p:=⟨r,1,none⟩) hwr _).setCell (p:=⟨r,2,none⟩) hwr _
      have hb89:Below W8.heap.size W8 W9:=by rw[hW9];exact Dt.box_below _ _ _
      have HB9:Hid (Below w.heap.size w W9):=hb8.trans (hb89.mono hb8.size)
      have l0':W8.cell? ⟨r,0,none⟩=some (.slice (some ⟨h,0,none⟩) 1 1):=by rw[hW8];go_simp
      have l1':W8.cell? ⟨r,1,none⟩=some (.slice none 0 0):=by rw[hW8];go_simp
      have l2':W8.cell? ⟨r,2,none⟩=some (.slice Ao mo co):=by rw[hW8];go_simp
      have hr8:r<W8.heap.size:=by rw[hs8,hh];exact hrv
      have l0:=(hb89.cell (p:=⟨r,0,none⟩) hr8).trans l0';have l1:=(hb89.cell (p:=⟨r,1,none⟩) hr8).trans l1';have l2:=(hb89.cell (p:=⟨r,2,none⟩) hr8).trans l2'
      have HE:RO W9 (fun b=>h≤b) 4 (some ⟨h,0,none⟩) 1 1 (entsC [⟨a,n,⟨#[]⟩,v⟩]):=by
       refine⟨rfl,Nat.le_refl _,fun u hu=>?_,fun _=>⟨_,_,rfl,Nat.le_refl _,by rw[hW9];simp;omega,fun j=>by rw[hW9,← hs8];go_simp,fun j u hu=>?_⟩⟩
       ·simp[entsC,entC]at hu
        rcases hu with rfl | rfl | rfl | rfl <;> rfl
       ·rw[Nat.zero_add,hW9,← hs8,cell_of_row _ _ j _ _ (0,0) (heap_alloc_new _ _)]
        simpa [entsC,entC] using hu
      have hwh:w.heap.size≤h:=by omega
      have HO9:Hid (OwC W9 w.heap.size (oneK ⟨a,n,⟨#[]⟩,v⟩) (some ⟨h,0,none⟩) 1 1 none 0 0 Ao mo co):=by
       have h8:RO W8 (fun b=>bo≤b) 3 Ao mo co (spsC (oneC a n)):=HRC.out.keep (by rw[hW8,cells3];exact Nat.le_refl _) fun b hb _=>by rw[hW8];exact cells3_at b (by omega)
       refine⟨?_,HMO.out.1,(h8.keep hb89.size fun b _ hlt=>hb89.block b hlt).mono fun b hb _=>Nat.le_trans hbo hb⟩;show RdO _ _ (.mk [_] []) _ _;rw[rdO_mk];exact⟨rfl,HE.mono fun b hb _=>Nat.le_trans hwh hb,rfl,[],RO.nil _ _ _ _ _,fun i hi=>by simp at hi⟩
      have Hh:=Lib.hid hh;have HW8:=Lib.hid hW8;have HW9:=Lib.hid hW9;clear hh hW8 hW9 hb9 hb8 hb89 hs8 hr8 l0' l1' l2' HE ho1 ho2 hmo hro HOF;go_wp2_with fail;rw[← Hh.out,← HW8.out,← HW9.out];refine bodyPost_ret (v:=.tuple #[.agg #[.slice (some ⟨h,0,none⟩) 1 1,.slice none 0 0,.slice Ao mo co],.int .i64 0]) (by simp[results,Tryz.results97,go_sem,l0,l1,l2]) rfl ⟨oneK ⟨a,n,⟨#[]⟩,v⟩,0,some ⟨h,0,none⟩,1,1,none,0,0,Ao,mo,co,rfl,HO9.out,Lib.hid (And.intro (fun _=>⟨rfl,rfl,HMO.out.2⟩) (fun h=>by rw[inc_yes HMB.out HV.out HLL.out]at h;cases h)),HB9.out⟩
     ·exact absurd (fun x hx=>by rw[List.mem_singleton.1 hx];exact HDD.out) hno
end Cs
end Go.Proofs.YtgeafpaognhokaaGreat
namespace Go.Proofs.YtgeafpaognhokaaGreat
open Go.ChangeShapes Go.WideShapes Go.ChangeAt Go.RowKit
namespace Cs
open Tr Cx Sp Rw Classical
noncomputable def wB (t:T) (s:ByteArray) (a n:Int):Bool:=checkB t a n&&decide (s.size≤30)
theorem wB_iff {t:T} {s:ByteArray} {a n:Int} : wB t s a n=true↔checkB t a n=true∧s.size≤30:=by
 unfold wB;rw[Bool.and_eq_true,decide_eq_true_iff]
theorem wB_no {t:T} {s:ByteArray} {a n:Int} (h:checkB t a n=false):wB t s a n=false:=by
 unfold wB;rw[h,Bool.false_and]
theorem wB_long {t:T} {s:ByteArray} {a n:Int} (h:¬s.size≤30):wB t s a n=false:=by
 unfold wB;rw[decide_eq_false h,Bool.and_false]
theorem own_check {t:T} {a n:Int} (h:checkB t a n=true):checkB (.mk t.es []) a n=true:=by
 obtain⟨h1,h2,h3⟩:=check_iff.1 h;refine check_iff.2 ⟨right_own h1,h2,fun h4=>h3 ?_⟩;rw[ownD_dl]at h4;exact own_sub h1 h4
theorem own_nodes (t:T):nodes (.mk t.es [])≤nodes t:=by
 rw[nodes_mk];have h:=nodes_es t.es t.ks;rw[T.eta]at h;simp;omega
theorem own_rd {w:World} {B:Nat} {t:T} {Ae Ak:Option Addr} {ne nk ce ck:Nat} (hr:RdT w B t ⟨Ae,ne,ce⟩ ⟨Ak,nk,ck⟩):RdT w B (.mk t.es []) ⟨Ae,ne,ce⟩ ⟨none,0,0⟩:=by
 have h:=hr;rw[← T.eta t,rdT_mk]at h;rw[rdT_mk];exact⟨h.1,h.2.1,rfl,[],Rd.nil _,fun i hi=>by simp at hi⟩
set_option maxRecDepth 100000 in
set_option maxHeartbeats 4000000 in
theorem rwrite_any (t:T) (Ae Ak:Option Addr) (ne nk ce ck:Nat) (s:ByteArray) (a n:Int) (w:World) (hl:LenT reachBytes t) (hn:nodes t≤1000) (hr:RdT w w.heap.size t ⟨Ae,ne,ce⟩ ⟨Ak,nk,ck⟩) :
  Calls Tryz.prog 98 #[.agg #[.slice Ae ne ce,.slice Ak nk ck],.string s,.agg #[.int .i64 a,.int .i64 n]] w (DeltaIs w.heap.size (wB t s a n) 1 (oneT ⟨a,n,s,0⟩) (ownD t) a n (4*nodes t+4) w):=by
 obtain⟨W,p,q,r,HW,HP,HQ,HR0,HKc,HKR,HFR⟩:=boxTDC w Ae Ak ne nk ce ck a n
 have hwr:w.heap.size≤r:=by have:=HP.out;have:=HR0.out;omega
 have hpr:p<r:=by have:=HP.out;have:=HR0.out;omega
 have hqr:q<r:=by have:=HQ.out;have:=HR0.out;omega
 obtain⟨ok,hok⟩:∃ ok,wB t s a n=ok:=⟨_,rfl⟩;rw[hok];have HOK:=Lib.hid hok;obtain⟨z,hz⟩:∃ z,checkB t a n=z:=⟨_,rfl⟩;have HR:=Lib.hid (RdT.more HKc.out.below.size _ (RdT.below hr HKc.out.below));have HD:=Lib.hid (fcheck_any t Ae Ak ne nk ce ck a n W z hz hl hn HR.out);have HMB:=Lib.hid hz;have HN:=Lib.hid hn;clear hl hn hr hz hok;obtain⟨c0,c1,c2,c3,-⟩:=HKc.out.cj;go_enter Tryz.func98,Tryz.ntmps98;go_wp2_with fail;rw[← HP.out,← HW.out]
 try rw[← HR0.out]
 try rw[← HQ.out]
 refine HD.out.mono ?_;rintro e v1 ⟨rfl,hb9⟩;have HKc:=Lib.hid (HKc.out.later hb9);have HKR:=Lib.hid (HKR.out.later hb9);have HFR:=Lib.hid (HFR.out.later hb9);have HR:=Lib.hid (RdT.later HR.out hb9);clear hb9 HD c0 c1 c2 c3
 cases z with
 | false=>
  have HNO:Hid (ok=false):=by unfold Hid;rw[← HOK.out];exact wB_no HMB.out
  obtain⟨z0,z1,z2,-⟩:=HKR.out.cj;have m0:=HFR.out.2 0;have m1:=HFR.out.2 1;have m2:=HFR.out.2 2;obtain⟨W9,hW9⟩:∃ W,W=((v1.setCell ⟨r,0,none⟩ (.slice none 0 0)).setCell ⟨r,1,none⟩ (.slice none 0 0)).setCell ⟨r,2,none⟩ (.slice none 0 0):=⟨_,rfl⟩
  have HB9:Hid (Below w.heap.size w W9):=by
   unfold Hid;rw[hW9];exact ((HKc.out.below.setCell (p:=⟨r,0,none⟩) hwr _).setCell (p:=⟨r,1,none⟩) hwr _).setCell (p:=⟨r,2,none⟩) hwr _
  have l0:W9.cell? ⟨r,0,none⟩=some (.slice none 0 0):=by rw[hW9];go_simp
  have l1:W9.cell? ⟨r,1,none⟩=some (.slice none 0 0):=by rw[hW9];go_simp
  have l2:W9.cell? ⟨r,2,none⟩=some (.slice none 0 0):=by rw[hW9];go_simp
  have HW9:=Lib.hid hW9;clear hW9;go_wp2_with fail;rw[← HW9.out];refine bodyPost_ret (v:=.tuple #[.agg #[.slice none 0 0,.slice none 0 0,.slice none 0 0],.int .i64 1]) (by simp[results,Tryz.results98,go_sem,l0,l1,l2]) rfl ⟨noneK,1,none,0,0,none,0,0,none,0,0,rfl,OwC.no _ _,Lib.hid (And.intro (fun h=>by rw[HNO.out]at h;cases h) (fun _=>⟨rfl,rfl⟩)),HB9.out⟩
 | true=>
  by_cases h1:s.size≤30
  ·have f1:decide ((30:Int)<(s.size:Int))=false:=decide_eq_false (by omega)
   have HYE:Hid (ok=true):=by unfold Hid;rw[← HOK.out];exact wB_iff.2 ⟨HMB.out,h1⟩
   clear h1;obtain⟨c0,c1,c2,c3,-⟩:=HKc.out.cj;go_wp2_with fail;clear c0 c1 c2 c3;refine (enable_any (.mk t.es []) Ae none ne 0 ce 0 a n v1 (LenT.few (by have:=own_nodes t;have:=HN.out;omega)) (by have:=own_nodes t;have:=HN.out;omega) (own_rd HR.out)).mono ?_;rintro e v2 ⟨k,z9,De,dn,dc,Dk,dm,dd,Rc,rq,re,rfl,how,hz9,hb9⟩;obtain⟨rfl,hk1,hna,u,hu,hpv⟩:=hz9.out.1 (own_check HMB.out);rw[ownD_dl]at hu;have hrlo:r<v1.heap.size:=HFR.out.1;have HRV:Hid (k.2.length=rq∧RO v2 (fun b=>r<b) 3 Rc rq re (spsC k.2)):=⟨how.out.len,how.out.ctx.mono fun b hb _=>Nat.lt_of_lt_of_le hrlo hb⟩;have HU:Hid (rq≤4*nodes t+4∧∃ u,OfC (ownD t) u∧PutC uniF u (oneC a n) k.2):=⟨by have:=own_nodes t;omega,u,hu,hpv⟩;have HKc:=Lib.hid (HKc.out.later hb9);have HKR:=Lib.hid (HKR.out.later hb9);have HFR:=Lib.hid (HFR.out.later hb9)
   have HR:=Lib.hid (RdT.later HR.out hb9);clear how hz9 hb9 hk1 hna hu hpv hrlo;obtain⟨d,hd⟩:∃ g,g=v2.heap.size:=⟨_,rfl⟩;obtain⟨v3,hv3⟩:∃ W,W=v2.alloc (.cells #[.slice De dn dc,.slice Dk dm dd,.slice Rc rq re] 42):=⟨_,rfl⟩
   have hb9:Below v2.heap.size v2 v3:=by rw[hv3];exact Dt.box_below _ _ _
   have b0:v3.cell? ⟨d,0,none⟩=some (.slice De dn dc):=by rw[hv3,hd];go_simp
   have b1:v3.cell? ⟨d,1,none⟩=some (.slice Dk dm dd):=by rw[hv3,hd];go_simp
   have b2:v3.cell? ⟨d,2,none⟩=some (.slice Rc rq re):=by rw[hv3,hd];go_simp
   have hs3:v3.heap.size=d+1:=by rw[hv3,hd];simp
   have hrv:r<v2.heap.size:=HFR.out.1;obtain⟨z0,z1,z2,-⟩:=HKR.out.cj;have m0:=HFR.out.2 0;have m1:=HFR.out.2 1;have m2:=HFR.out.2 2;have HB2:=Lib.hid HKc.out.below
   have hrd:r<d:=by rw[hd];exact hrv
   have HKc:=Lib.hid (HKc.out.later hb9);have HKc:=Lib.hid (((HKc.out.cons_of b2).cons_of b1).cons_of b0);obtain⟨h,hh⟩:∃ g,g=d+1:=⟨_,rfl⟩;obtain⟨W7,hW7⟩:∃ W,W=((v2.setCell ⟨r,0,none⟩ (.slice (some ⟨h,0,none⟩) 1 1)).setCell ⟨r,1,none⟩ (.slice none 0 0)).setCell ⟨r,2,none⟩ (.slice Rc rq re):=⟨_,rfl⟩;obtain⟨W8,hW8⟩:∃ W,W=W7.alloc (.cells #[.slice De dn dc,.slice Dk dm dd,.slice Rc rq re] 42):=⟨_,rfl⟩;obtain⟨W9,hW9⟩:∃ W,W=W8.alloc (.cells #[.int .i64 a,.int .i64 n,.string s,.int .i64 0] 97):=⟨_,rfl⟩
   have hs7:W7.heap.size=d:=by rw[hW7,cells3,hd]
   have hs8:W8.heap.size=h:=by rw[hW8];simp;omega
   have hb7:Below w.heap.size w W7:=by
    rw[hW7];exact ((HB2.out.setCell (p:=⟨r,0,none⟩) hwr _).setCell (p:=⟨r,1,none⟩) hwr _).setCell (p:=⟨r,2,none⟩) hwr _
   have hb78:Below W7.heap.size W7 W8:=by rw[hW8];exact Dt.box_below _ _ _
   have hb89:Below W8.heap.size W8 W9:=by rw[hW9];exact Dt.box_below _ _ _
   have hb79:Below W7.heap.size W7 W9:=hb78.trans (hb89.mono hb78.size);have HB9:Hid (Below w.heap.size w W9):=hb7.trans (hb79.mono hb7.size)
   have hr7:r<W7.heap.size:=by rw[hs7];exact hrd
   have hwh:w.heap.size≤h:=by omega
   have Hh:=Lib.hid hh;have Hd:=Lib.hid hd;have Hv3:=Lib.hid hv3;clear hh hd hv3
   have l0':W7.cell? ⟨r,0,none⟩=some (.slice (some ⟨h,0,none⟩) 1 1):=by rw[hW7];go_simp
   have l1':W7.cell? ⟨r,1,none⟩=some (.slice none 0 0):=by rw[hW7];go_simp
   have l2':W7.cell? ⟨r,2,none⟩=some (.slice Rc rq re):=by rw[hW7];go_simp
   have l0:=(hb79.cell (p:=⟨r,0,none⟩) hr7).trans l0';have l1:=(hb79.cell (p:=⟨r,1,none⟩) hr7).trans l1';have l2:=(hb79.cell (p:=⟨r,2,none⟩) hr7).trans l2'
   have HE:RO W9 (fun b=>h≤b) 4 (some ⟨h,0,none⟩) 1 1 (entsC [⟨a,n,s,0⟩]):=by
    refine⟨rfl,Nat.le_refl _,fun u hu=>?_,fun _=>⟨_,_,rfl,Nat.le_refl _,by rw[hW9];simp;omega,fun j=>by rw[hW9,← hs8];go_simp,fun j u hu=>?_⟩⟩
    ·simp[entsC,entC]at hu
     rcases hu with rfl | rfl | rfl | rfl <;> rfl
    ·rw[Nat.zero_add,hW9,← hs8,cell_of_row _ _ j _ _ (0,0) (heap_alloc_new _ _)]
     simpa [entsC,entC] using hu
   have HO9:Hid (OwC W9 w.heap.size (oneT ⟨a,n,s,0⟩,k.2) (some ⟨h,0,none⟩) 1 1 none 0 0 Rc rq re):=by
    have h8:RO W7 (fun b=>r<b) 3 Rc rq re (spsC k.2):=HRV.out.2.keep (by rw[hW7,cells3];exact Nat.le_refl _) fun b hb _=>by rw[hW7];exact cells3_at b (by omega)
    refine⟨?_,HRV.out.1,(h8.keep hb79.size fun b _ hlt=>hb79.block b hlt).mono fun b hb _=>Nat.le_trans hwr (Nat.le_of_lt hb)⟩;show RdO _ _ (.mk [_] []) _ _;rw[rdO_mk];exact⟨rfl,HE.mono fun b hb _=>Nat.le_trans hwh hb,rfl,[],RO.nil _ _ _ _ _,fun i hi=>by simp at hi⟩
   have HW7:=Lib.hid hW7;have HW8:=Lib.hid hW8;have HW9:=Lib.hid hW9;clear hW7 hW8 hW9 hb9 hb7 hb78 hb89 hb79 hs7 hs8 hs3 hr7 l0' l1' l2' HE b0 b1 b2;obtain⟨c0,c1,c2,c3,c4,c5,c6,-⟩:=HKc.out.cj;rw[Hv3.out]at c0 c1 c2 c3 c4 c5 c6;rw[Hd.out]at c0 c1 c2;go_wp2_with fail;rw[← Hd.out,← Hh.out,← HW7.out,← HW8.out,← HW9.out];refine bodyPost_ret (v:=.tuple #[.agg #[.slice (some ⟨h,0,none⟩) 1 1,.slice none 0 0,.slice Rc rq re],.int .i64 0]) (by simp[results,Tryz.results98,go_sem,l0,l1,l2]) rfl ⟨(oneT ⟨a,n,s,0⟩,k.2),0,some ⟨h,0,none⟩,1,1,none,0,0,Rc,rq,re,rfl,HO9.out,Lib.hid (And.intro (fun _=>⟨rfl,rfl,HU.out.1,HU.out.2⟩) (fun h=>by rw[HYE.out]at h;cases h)),HB9.out⟩
  ·have f1:decide ((30:Int)<(s.size:Int))=true:=decide_eq_true (by omega)
   have HNO:Hid (ok=false):=by unfold Hid;rw[← HOK.out];exact wB_long h1
   clear h1;obtain⟨z0,z1,z2,-⟩:=HKR.out.cj;have m0:=HFR.out.2 0;have m1:=HFR.out.2 1;have m2:=HFR.out.2 2;obtain⟨W9,hW9⟩:∃ W,W=((v1.setCell ⟨r,0,none⟩ (.slice none 0 0)).setCell ⟨r,1,none⟩ (.slice none 0 0)).setCell ⟨r,2,none⟩ (.slice none 0 0):=⟨_,rfl⟩
   have HB9:Hid (Below w.heap.size w W9):=by
    unfold Hid;rw[hW9];exact ((HKc.out.below.setCell (p:=⟨r,0,none⟩) hwr _).setCell (p:=⟨r,1,none⟩) hwr _).setCell (p:=⟨r,2,none⟩) hwr _
   have l0:W9.cell? ⟨r,0,none⟩=some (.slice none 0 0):=by rw[hW9];go_simp
   have l1:W9.cell? ⟨r,1,none⟩=some (.slice none 0 0):=by rw[hW9];go_simp
   have l2:W9.cell? ⟨r,2,none⟩=some (.slice none 0 0):=by rw[hW9];go_simp
   have HW9:=Lib.hid hW9;clear hW9;go_wp2_with fail;rw[← HW9.out];refine bodyPost_ret (v:=.tuple #[.agg #[.slice none 0 0,.slice none 0 0,.slice none 0 0],.int .i64 1]) (by simp[results,Tryz.results98,go_sem,l0,l1,l2]) rfl ⟨noneK,1,none,0,0,none,0,0,none,0,0,rfl,OwC.no _ _,Lib.hid (And.intro (fun h=>by rw[HNO.out]at h;cases h) (fun _=>⟨rfl,rfl⟩)),HB9.out⟩
end Cs
end Go.Proofs.YtgeafpaognhokaaGreat
set_option maxRecDepth 100000
set_option maxHeartbeats 4000000
namespace Go.Proofs.YtgeafpaognhokaaGreat
open Go.ChangeShapes Go.WideShapes Go.ChangeAt Go.RowKit
namespace Cs
open Tr Cx Sp Rw Classical
theorem boxTT (w:World) (Ae Ak Be Bk:Option Addr) (ne nk ce ck me mk de dk:Nat):∃ (W:World) (p q:Nat),Hid (W=((w.alloc (.cells #[.slice Ae ne ce,.slice Ak nk ck] 35)).alloc (.cells #[.slice Be me de,.slice Bk mk dk] 35)))∧Hid (p=w.heap.size)∧Hid (q=p+1)∧Hid (Kept [(⟨p,0,none⟩,.slice Ae ne ce),(⟨p,1,none⟩,.slice Ak nk ck),(⟨q,0,none⟩,.slice Be me de),(⟨q,1,none⟩,.slice Bk mk dk)] w W):=by
 refine⟨_,_,_,rfl,rfl,rfl,?_⟩;have h0:=Kept.nil_of (show Below w.heap.size w (((w.alloc (.cells #[.slice Ae ne ce,.slice Ak nk ck] 35)).alloc (.cells #[.slice Be me de,.slice Bk mk dk] 35))) from ((Below.refl _ _).alloc (Nat.le_refl _) _).alloc (by simp) _)
 refine ((((h0).cons_of ?_).cons_of ?_).cons_of ?_).cons_of ?_ <;> go_simp
theorem mroom_any (t:T) (Ae Ak:Option Addr) (ne nk ce ck:Nat) (x:T) (Be Bk:Option Addr) (me mk de dk:Nat) (key:ByteArray) (w:World) (z:Bool) (hz:mroomB t key x=z) (ht:RightT 5 t) (hl:LenT reachBytes t) (hn:nodes t≤1000) (hr:RdT w w.heap.size t ⟨Ae,ne,ce⟩ ⟨Ak,nk,ck⟩) (hr2:RdT w w.heap.size x ⟨Be,me,de⟩ ⟨Bk,mk,dk⟩) :
  Calls Tryz.prog 106 #[.agg #[.slice Ae ne ce,.slice Ak nk ck],.string key,.agg #[.slice Be me de,.slice Bk mk dk]] w fun e w'=>e = .returned (.bool z)∧Below w.heap.size w w':=by
 obtain⟨W,p,q,HW,HP,HQ,HKc⟩:=boxTT w Ae Ak Be Bk ne nk ce ck me mk de dk;have R:=Lib.hid (RdT.later hr HKc.out.below);obtain⟨y,hy⟩:∃ y,decide (me=0∧mk=0)=y:=⟨_,rfl⟩;have HY:=Lib.hid hy
 have HZ:Hid ((y||roomB t key)=z):=by
  unfold Hid;rw[← hy,← hz];unfold mroomB;rw[decide_eq_decide.2 (kid_none hr2)]
 have HT:=Lib.hid ht;have N:=Lib.hid (And.intro hl hn)
 have HNK:Hid (t.ks.length=nk):=by
  have h:=hr;rw[← T.eta t]at h;exact (rd_lens h).2
 clear hz ht hl hn hr hr2 hy;obtain⟨c0,c1,c2,c3,-⟩:=HKc.out.cj;go_enter Tryz.func106,Tryz.ntmps106;go_wp2_with fail;rw[← HW.out,← HP.out]
 try rw[← HQ.out]
 refine (empty_any Be Bk me mk de dk W).mono ?_;rw[HY.out];rintro e v1 ⟨rfl,hb9⟩;have HKc:=Lib.hid (HKc.out.later hb9);have R:=Lib.hid (RdT.later R.out hb9);clear hb9;clear c0 c1 c2 c3
 cases y with
 | true=>
  obtain rfl:z=true:=by rw[← HZ.out];rfl
  go_wp2_with fail;go_ret;exact⟨by first | rfl | simp,HKc.out.below⟩
 | false=>
  have HZR:Hid (roomB t key=z):=HZ.out
  by_cases h24:nk<24
  ·have f24:decide ((nk:Int)<24)=true:=decide_eq_true (by omega)
   obtain rfl:z=true:=by
    rw[← HZR.out];unfold roomB;rw[decide_eq_true (p:=t.ks.length<24) (by rw[HNK.out];exact h24)];rfl
   obtain⟨c0,c1,c2,c3,-⟩:=HKc.out.cj;go_wp2_with fail;go_ret;exact⟨by first | rfl | simp,HKc.out.below⟩
  ·have f24:decide ((nk:Int)<24)=false:=decide_eq_false (by omega)
   have HZK:Hid (decide (key∈keysOf t.ks)=z):=by
    unfold Hid;rw[← HZR.out];unfold roomB;rw[decide_eq_false (p:=t.ks.length<24) (by rw[HNK.out];exact h24),Bool.false_or]
   obtain⟨c0,c1,c2,c3,-⟩:=HKc.out.cj;obtain⟨gs,hgs⟩:∃ g,g=v1.heap.size:=⟨_,rfl⟩;obtain⟨v2,hv2⟩:∃ W,W=v1.alloc (.cells #[.string key] 9):=⟨_,rfl⟩
   have hb9:Below v1.heap.size v1 v2:=by rw[hv2];exact Dt.box_below _ _ _
   have HKc:=Lib.hid (HKc.out.later hb9);have R:=Lib.hid (RdT.later R.out hb9);clear hb9
   have RS:Hid (Rd v2 v2.heap.size 1 (some ⟨gs,0,none⟩) 1 1 (strs [key])):=by unfold Hid;rw[hv2,hgs];exact rd_one1 _ _
   have Hgs:=Lib.hid hgs;have Hv2:=Lib.hid hv2;clear hgs hv2;go_wp2_with fail;rw[← Hgs.out,← Hv2.out];refine (get_any t Ae Ak ne nk ce ck v2 [key] (some ⟨gs,0,none⟩) 1 1 rfl (by omega) RS.out N.out.1 (by have:=N.out.2;omega) R.out).mono ?_;rintro e v3 ⟨Ge,gn,gc,Gk,gm,gd,rfl,ho,hb9⟩
   have HG:RdT v3 v3.heap.size (kidAt t.ks key) ⟨Ge,gn,gc⟩ ⟨Gk,gm,gd⟩:=by
    have h:=ho.rd;rw[if_pos (Tr.rightB_iff.2 HT.out)]at h;exact h
   have HEQ:(gn=0∧gm=0)↔¬key∈keysOf t.ks:=by
    rw[kid_none HG,kid_some HT.out];exact not_not.symm
   have HEM:Hid (decide (gn=0∧gm=0) = !z):=by
    unfold Hid;rw[← HZK.out,← decide_not];exact decide_eq_decide.2 HEQ
   clear ho HG HEQ;have HKc:=Lib.hid (HKc.out.later hb9);have R:=Lib.hid (RdT.later R.out hb9);have RS:=Lib.hid (RS.out.later hb9);clear hb9;clear c0 c1 c2 c3;obtain⟨c0,c1,c2,c3,-⟩:=HKc.out.cj;go_wp2_with fail;refine (empty_any Ge Gk gn gm gc gd v3).mono ?_;rw[HEM.out];rintro e v4 ⟨rfl,hb9⟩;have HKc:=Lib.hid (HKc.out.later hb9);have R:=Lib.hid (RdT.later R.out hb9);have RS:=Lib.hid (RS.out.later hb9);clear hb9;clear c0 c1 c2 c3
   cases z
   ·go_wp2_with fail
    go_ret;exact⟨by first | rfl | simp,HKc.out.below⟩
   ·go_wp2_with fail
    go_ret;exact⟨by first | rfl | simp,HKc.out.below⟩
theorem mreset_any (t:T) (Ae Ak:Option Addr) (ne nk ce ck:Nat) (a n:Int) (w:World) (hl:LenT reachBytes t) (hn:nodes t≤1000) (hr:RdT w w.heap.size t ⟨Ae,ne,ce⟩ ⟨Ak,nk,ck⟩) :
  Calls Tryz.prog 99 #[.agg #[.slice Ae ne ce,.slice Ak nk ck],.agg #[.int .i64 a,.int .i64 n]] w (DeltaIs w.heap.size (checkB t a n) 1 none_ (dl t) a n (4*nodes t+4) w):=by
 obtain⟨ok,hok⟩:∃ x,checkB t a n=x:=⟨_,rfl⟩;rw[hok];obtain⟨W,p,q,r,HW,HP,HQ,HR0,HKc,HKR,HFR⟩:=boxTDC w Ae Ak ne nk ce ck a n
 have hwr:w.heap.size≤r:=by have:=HP.out;have:=HR0.out;omega
 have R:=Lib.hid (RdT.later hr HKc.out.below);have HD:=Lib.hid (disable_any t Ae Ak ne nk ce ck a n W hl hn R.out);rw[hok]at HD;have HRW:Hid (r<W.heap.size∧w.heap.size≤W.heap.size):=⟨HFR.out.1,HKc.out.below.size⟩;clear hl hn hr hok;obtain⟨c0,c1,c2,c3,-⟩:=HKc.out.cj;go_enter Tryz.func99,Tryz.ntmps99;go_wp2_with fail;rw[← HP.out,← HW.out]
 try rw[← HR0.out]
 try rw[← HQ.out]
 refine HD.out.mono ?_;rintro e v1 ⟨k,z,De,dn,dc,Dk,dm,dd,Rc,rq,re,rfl,how,hz,hb9⟩;have HKc:=Lib.hid (HKc.out.later hb9);have HKR:=Lib.hid (HKR.out.later hb9);have HFR:=Lib.hid (HFR.out.later hb9);have HOW:=Lib.hid how.out;have HZ:=Lib.hid hz.out;clear hb9 how hz HD c0 c1 c2 c3;obtain⟨z0,z1,z2,-⟩:=HKR.out.cj;have m0:=HFR.out.2 0;have m1:=HFR.out.2 1;have m2:=HFR.out.2 2;obtain⟨W9,hW9⟩:∃ W,W=((v1.setCell ⟨r,0,none⟩ (.slice De dn dc)).setCell ⟨r,1,none⟩ (.slice Dk dm dd)).setCell ⟨r,2,none⟩ (.slice Rc rq re):=⟨_,rfl⟩
 have HB9:Hid (Below w.heap.size w W9):=by
  unfold Hid;rw[hW9];exact ((HKc.out.below.setCell (p:=⟨r,0,none⟩) hwr _).setCell (p:=⟨r,1,none⟩) hwr _).setCell (p:=⟨r,2,none⟩) hwr _
 have HO9:Hid (OwC W9 w.heap.size k De dn dc Dk dm dd Rc rq re):=by
  unfold Hid;rw[hW9];exact (HOW.out.set3 HRW.out.1 _ _ _).mono HRW.out.2
 have l0:W9.cell? ⟨r,0,none⟩=some (.slice De dn dc):=by rw[hW9];go_simp
 have l1:W9.cell? ⟨r,1,none⟩=some (.slice Dk dm dd):=by rw[hW9];go_simp
 have l2:W9.cell? ⟨r,2,none⟩=some (.slice Rc rq re):=by rw[hW9];go_simp
 have HW9:=Lib.hid hW9;clear hW9;go_wp2_with fail;rw[← HW9.out];refine bodyPost_ret (v:=.tuple #[.agg #[.slice De dn dc,.slice Dk dm dd,.slice Rc rq re],.int .i64 z]) (by simp[results,Tryz.results99,go_sem,l0,l1,l2]) rfl ⟨k,z,De,dn,dc,Dk,dm,dd,Rc,rq,re,rfl,HO9.out,HZ.out,HB9.out⟩
theorem mkeys_own (t:T) (Ae Ak:Option Addr) (ne nk ce ck:Nat) (w:World) (y:Bool) (hy:Tr.rightB 5 t=y) (hl:LenT reachBytes t) (hn:nodes t≤1000) (hr:RdT w w.heap.size t ⟨Ae,ne,ce⟩ ⟨Ak,nk,ck⟩) :
  Calls Tryz.prog 117 #[.agg #[.slice Ae ne ce,.slice Ak nk ck]] w fun e w'=>∃ (A':Option Addr) (q' c':Nat),e = .returned (.slice A' q' c')∧Hid (q'=if y=true then nk else 0)∧Hid (Own w' w.heap.size 9 1 A' q' c' (strs (if y=true then keysOf t.ks else [])))∧Below w.heap.size w w':=by
 cases t with
 | mk es ks=>
  obtain⟨hle,hlk⟩:=rd_lens hr;have HR:=Lib.hid hr;have HLK:=Lib.hid hlk;have HL:=Lib.hid hl;have HY:=Lib.hid hy
  have hnk:nk≤1000:=by have:=nodes_es es ks;omega
  clear hle hlk hr hn hl hy;obtain⟨g,hg⟩:∃ g,g=w.heap.size:=⟨_,rfl⟩;have HK:=Lib.hid (tree_box w Ae Ak ne nk ce ck);rw[← hg]at HK;obtain⟨W0,hW0⟩:∃ W,W=w.alloc (.cells #[.slice Ae ne ce,.slice Ak nk ck] 35):=⟨_,rfl⟩;rw[← hW0]at HK;have HG:=Lib.hid hg;have HW0:=Lib.hid hW0;have k0:=HK.out.c0;have k1:=HK.out.c1;clear hg hW0;have HRT:=Lib.hid (RdT.more HK.out.below.size _ (RdT.below HR.out HK.out.below));go_enter Tryz.func117,Tryz.ntmps117;go_wp2_with fail;rw[← HG.out,← HW0.out];refine (rightT_any (.mk es ks) Ae Ak ne nk ce ck W0 HL.out HRT.out).mono ?_;rw[HY.out];rintro e W1 ⟨rfl,hb9⟩;have HK:=Lib.hid (HK.out.later hb9);clear hb9 HRT k0 k1;have k0:=HK.out.c0;have k1:=HK.out.c1
  cases y with
  | false=>
   go_wp2_with fail;go_ret;exact⟨none,0,0,rfl,rfl,⟨World.ownsRow_nil _ _ _ _,by simp[Tr.strs]⟩,HK.out.below⟩
  | true=>
   go_wp2_with fail
   go_loopw [3,12] (fun v i wr=>∃ (k:Nat) (Ax:Option Addr) (cx:Nat),k≤nk∧i = .int .i64 k∧v = .slice Ax k cx∧Hid (Own wr W1.heap.size 9 1 Ax k cx (strs (keysOf (ks.take k))))∧Hid (Below W1.heap.size W1 wr)) (fun _ i _=>nk-(intOf i).toNat)
   case atStart=>exact⟨0,none,0,by omega,rfl,rfl,⟨World.ownsRow_nil _ _ _ _,by simp[Tr.strs,keysOf]⟩,Below.refl _ _⟩
   case round=>
    obtain⟨k,Ax,cx,hk,rfl,rfl,HO,HBL⟩:=hrel;clear k0 k1;have k0:=(HBL.out.cell (p:=⟨g,0,none⟩) (World.block_lt_of_cell? W1 _ HK.out.c0)).trans HK.out.c0;have k1:=(HBL.out.cell (p:=⟨g,1,none⟩) (World.block_lt_of_cell? W1 _ HK.out.c1)).trans HK.out.c1
    by_cases hlt:k<nk
    ·have hbw:=HK.out.below.trans (HBL.out.mono HK.out.below.size)
     have hkl:k<ks.length:=by rw[HLK.out];exact hlt
     obtain⟨b,o,rfl,hb,hc⟩:=rd_kid HR.out (by omega);obtain⟨⟨Ae',ne',ce'⟩,⟨Ak',nk',ck'⟩,c0,c1,c2,hkid⟩:=hc k hkl;dsimp only at c0 c1 c2;have c0:=(hbw.cell (p:=⟨b,o+k*3,none⟩) hb).trans c0;have c1:=(hbw.cell (p:=⟨b,o+k*3+1,none⟩) hb).trans c1;have c2:=(hbw.cell (p:=⟨b,o+k*3+2,none⟩) hb).trans c2;obtain⟨key,hkey⟩:∃ key,key=(ks[k]).1:=⟨_,rfl⟩;rw[← hkey]at c0
     have HSUC:Hid (keysOf (ks.take (k+1))=keysOf (ks.take k)++[key]):=by unfold Hid keysOf;rw[List.take_succ_eq_append_getElem hkl,List.map_append,hkey];rfl
     clear hc hkid hkey hbw;obtain⟨wk,hwk⟩:∃ W,W=wr.alloc (.cells #[.string key,.slice Ae' ne' ce',.slice Ak' nk' ck'] 134):=⟨_,rfl⟩
     have hbk:Below wr.heap.size wr wk:=by rw[hwk];exact Dt.box_below _ _ _
     have HBL:=Lib.hid (HBL.out.trans (hbk.mono HBL.out.size));have HO:=Lib.hid (own_later HO.out hbk)
     have hsk:wk.heap.size=wr.heap.size+1:=by rw[hwk];simp
     obtain⟨A6,c6,w6,r1,r2,r3⟩:=push_str wk W1.heap.size (wr.heap.size+1) hsk HO.out HBL.out.size key (by omega);rw[hwk]at r1;clear hwk hbk hsk
     have HO6:Hid (Own w6 W1.heap.size 9 1 A6 (k+1) c6 (strs (keysOf (ks.take (k+1))))):=by unfold Hid;rw[HSUC.out];exact r2
     have HBL6:=Lib.hid (HBL.out.trans r3);have Hrun:=Lib.hid r1;clear r1 r2 r3;go_wp2_with (at_builtin;refine Lib.wpList_append_run _ rfl _ _ _ _ rfl _ _ rfl rfl _ _ Hrun.out ?_);go_roundw
     case rel=>exact⟨k+1,A6,c6,by omega,by go_num,rfl,HO6.out,HBL6.out⟩
     case measure=>simp[intOf];omega
    ·obtain rfl:k=nk:=by omega
     have HRD:Hid (Own wr w.heap.size 9 1 Ax k cx (strs (keysOf ks))):=by
      have h1:=HO.out;rw[List.take_of_length_le (by rw[HLK.out];exact Nat.le_refl _)]at h1;exact h1.mono HK.out.below.size
     have HB:=Lib.hid (HK.out.below.trans (HBL.out.mono HK.out.below.size));go_wp2_with fail;go_ret;exact⟨Ax,k,cx,rfl,rfl,HRD.out,HB.out⟩
end Cs
end Go.Proofs.YtgeafpaognhokaaGreat
set_option maxRecDepth 100000
set_option maxHeartbeats 4000000
namespace Go.Proofs.YtgeafpaognhokaaGreat
open Go.ChangeShapes Go.WideShapes Go.ChangeAt Go.RowKit
namespace Cs
open Tr Cx Sp Rw Classical
theorem kindK_five (k:ByteArray):kindK k≤5:=by
 unfold kindK
 split <;> omega
theorem slindex_any (s:ByteArray) (c:Int) (w:World) :
  Calls Tryz.prog 83 #[.string s,.int .u8 c] w fun e w'=>e = .returned (.int .i64 (Lib.indexByte s.data.toList c.toNat.toUInt8))∧w'=w:=by
 go_enter Tryz.func83,Tryz.ntmps83;go_wp2;rw[run_callFunc_extern Tryz.func131 (by kernel_rfl) (by kernel_rfl) (by kernel_rfl) (e:=Extern.BytealgIndexByte.indexByte) (by kernel_rfl),Lib.run_indexByteString];simp only[Result.andThen];rw[Oper.upon_value];go_wp2;go_ret;exact⟨rfl,rfl⟩
theorem strindex_any (s:ByteArray) (c:Int) (w:World) :
  Calls Tryz.prog 40 #[.string s,.int .u8 c] w fun e w'=>e = .returned (.int .i64 (Lib.indexByte s.data.toList c.toNat.toUInt8))∧w'=w:=by
 go_enter Tryz.func40,Tryz.ntmps40;go_wp2_with (go_at_call 83;refine (slindex_any _ _ _).mono ?_;rintro e w' ⟨rfl,rfl⟩);go_ret;exact⟨rfl,rfl⟩
theorem kind_at (c:UInt8) (l:List UInt8):1+Lib.indexByte [102,115,99,114,109] c=((kindK ⟨⟨c::l⟩⟩:Nat):Int):=by
 by_cases h1:c=102
 ·subst h1;rfl
 by_cases h2:c=115
 ·subst h2;rfl
 by_cases h3:c=99
 ·subst h3;rfl
 by_cases h4:c=114
 ·subst h4;rfl
 by_cases h5:c=109
 ·subst h5;rfl
 rw[kind_no ⟨h1,h2,h3,h4,h5⟩]
 have e1:((102:UInt8)==c)=false:=by rw[beq_eq_false_iff_ne];exact fun h=>h1 h.symm
 have e2:((115:UInt8)==c)=false:=by rw[beq_eq_false_iff_ne];exact fun h=>h2 h.symm
 have e3:((99:UInt8)==c)=false:=by rw[beq_eq_false_iff_ne];exact fun h=>h3 h.symm
 have e4:((114:UInt8)==c)=false:=by rw[beq_eq_false_iff_ne];exact fun h=>h4 h.symm
 have e5:((109:UInt8)==c)=false:=by rw[beq_eq_false_iff_ne];exact fun h=>h5 h.symm
 simp[Lib.indexByte,e1,e2,e3,e4,e5]
theorem okind_any (key:ByteArray) (w:World) :
  Calls Tryz.prog 13 #[.string key] w fun e w'=>e = .returned (.int .i64 (kindK key))∧w'=w:=by
 obtain⟨⟨l⟩⟩:=key
 cases l with
 | nil=>
  go_enter Tryz.func13,Tryz.ntmps13;go_wp2_with fail;go_ret;exact⟨rfl,rfl⟩
 | cons c l=>
  obtain⟨n,hn⟩:∃ n,n=kindK ⟨⟨c::l⟩⟩:=⟨_,rfl⟩;have hk:=kind_at c l;rw[← hn]at hk ⊢
  have hn5:n≤5:=by rw[hn];exact kindK_five _
  have f8:((ByteArray.mk ⟨c::l⟩).toList==(ByteArray.mk #[]).toList)=false:=bytes_ne (fun h=>by injection h with h;injection h with h;cases h)
  have f9:((ByteArray.mk ⟨c::l⟩).toList != (ByteArray.mk #[]).toList)=true:=by unfold bne;rw[f8];rfl
  have e0:(ByteArray.mk #[]).toList=[]:=by rw[ByteArray.toList_eq]
  have f10:=f8;have f11:=f9;rw[e0]at f10 f11
  have HSZ:0<(ByteArray.mk ⟨c::l⟩).size:=by show 0<(c::l).length;simp
  have hg:(((ByteArray.mk ⟨c::l⟩)[0]'HSZ).toNat:Int).toNat.toUInt8=c:=by
   show ((c.toNat:Nat):Int).toNat.toUInt8=c;simp
  have HK:Hid (1+Lib.indexByte [102,115,99,114,109] c=(n:Int)):=hk;have HG:=Lib.hid hg;have HN5:=Lib.hid hn5;clear hn hk e0 hg hn5;go_enter Tryz.func13,Tryz.ntmps13;go_wp2_with fail;refine (strindex_any _ _ _).mono ?_;rintro e w' ⟨rfl,rfl⟩
  have hw:IntKind.i64.wrap (1+Lib.indexByte [102,115,99,114,109] c)=(n:Int):=by rw[HK.out,IntKind.wrap_i64];have:=HN5.out;omega
  rw[HG.out];go_wp2_with fail;go_ret;exact⟨rfl,rfl⟩
end Cs
end Go.Proofs.YtgeafpaognhokaaGreat
namespace Go.Proofs.YtgeafpaognhokaaGreat
open Go.ChangeShapes Go.WideShapes Go.ChangeAt Go.RowKit
namespace Cs
open Tr Cx Sp Rw Classical
theorem boxTCC (w:World) (Ae Ak De Dk Dc:Option Addr) (ne nk ce ck de1 de2 dk1 dk2 dc1 dc2:Nat):∃ (W:World) (p q r:Nat),Hid (W=(((w.alloc (.cells #[.slice Ae ne ce,.slice Ak nk ck] 35)).alloc (.cells #[.slice De de1 de2,.slice Dk dk1 dk2,.slice Dc dc1 dc2] 42)).alloc (.cells #[.slice none 0 0,.slice none 0 0,.slice none 0 0] 42)))∧Hid (p=w.heap.size)∧Hid (q=p+1)∧Hid (r=p+1+1)∧Hid (Kept [(⟨p,0,none⟩,.slice Ae ne ce),(⟨p,1,none⟩,.slice Ak nk ck),(⟨q,0,none⟩,.slice De de1 de2),(⟨q,1,none⟩,.slice Dk dk1 dk2),(⟨q,2,none⟩,.slice Dc dc1 dc2)] w W)∧Hid (Kept [(⟨r,0,none⟩,.slice none 0 0),(⟨r,1,none⟩,.slice none 0 0),(⟨r,2,none⟩,.slice none 0 0)] w W)∧Hid (Free r W):=by
 refine⟨_,_,_,_,rfl,rfl,rfl,rfl,?_,?_,⟨by simp,fun j=>by go_simp⟩⟩
 ·have h0:=Kept.nil_of (box3_below w #[.slice Ae ne ce,.slice Ak nk ck] #[.slice De de1 de2,.slice Dk dk1 dk2,.slice Dc dc1 dc2] #[.slice none 0 0,.slice none 0 0,.slice none 0 0] 35 42 42)
  refine ((((h0.cons_of ?_).cons_of ?_).cons_of ?_).cons_of ?_).cons_of ?_ <;> go_simp
 ·have h0:=Kept.nil_of (box3_below w #[.slice Ae ne ce,.slice Ak nk ck] #[.slice De de1 de2,.slice Dk dk1 dk2,.slice Dc dc1 dc2] #[.slice none 0 0,.slice none 0 0,.slice none 0 0] 35 42 42)
  refine ((h0.cons_of ?_).cons_of ?_).cons_of ?_ <;> go_simp
set_option maxRecDepth 100000 in
set_option maxHeartbeats 4000000 in
theorem update_any (t:T) (Ae Ak:Option Addr) (ne nk ce ck:Nat) (key:ByteArray) (kd:K) (De Dk Dc:Option Addr) (de1 de2 dk1 dk2 dc1 dc2:Nat) (w:World) (hl:LenT reachBytes t) (hn:nodes t≤1000) (hr:RdT w w.heap.size t ⟨Ae,ne,ce⟩ ⟨Ak,nk,ck⟩) (hld:LenT reachBytes kd.1) (hnd:nodes kd.1≤1000) (hdc:dc1≤1000) (hrd:RdP w ⟨kd,⟨De,de1,de2⟩,⟨Dk,dk1,dk2⟩,⟨Dc,dc1,dc2⟩⟩) :
  Calls Tryz.prog 51 #[.agg #[.slice Ae ne ce,.slice Ak nk ck],.string key,.agg #[.slice De de1 de2,.slice Dk dk1 dk2,.slice Dc dc1 dc2]] w (CausErr (updK t key kd) (updE t key kd) w):=by
 obtain⟨z,hz⟩:∃ z,updE t key kd=z:=⟨_,rfl⟩;obtain⟨k9,hk9⟩:∃ k,updK t key kd=k:=⟨_,rfl⟩;rw[hz,hk9];obtain⟨W,p,q,r,HW,HP,HQ,HR0,HKc,HKR,HFR⟩:=boxTCC w Ae Ak De Dk Dc ne nk ce ck de1 de2 dk1 dk2 dc1 dc2
 have hwr:w.heap.size≤r:=by have:=HP.out;have:=HR0.out;omega
 have hpr:p<r:=by have:=HP.out;have:=HR0.out;omega
 have hqr:q<r:=by have:=HQ.out;have:=HR0.out;omega
 have R:=Lib.hid (RdT.later hr HKc.out.below);have RD:=Lib.hid (RdP.later hrd HKc.out.below);have N:=Lib.hid (And.intro hl hn);have ND:=Lib.hid (And.intro hld (And.intro hnd hdc));have HZ:=Lib.hid hz;have HK9:=Lib.hid hk9;obtain⟨y1,hy1⟩:∃ y,Tr.rightB 5 t=y:=⟨_,rfl⟩;obtain⟨y2,hy2⟩:∃ y,rightKB kd=y:=⟨_,rfl⟩;have HY1:=Lib.hid hy1;have HY2:=Lib.hid hy2;clear hl hn hr hld hnd hdc hrd hz hk9 hy1 hy2;obtain⟨c0,c1,c2,c3,c4,-⟩:=HKc.out.cj;go_enter Tryz.func51,Tryz.ntmps51;go_wp2_with fail;rw[← HW.out,← HP.out]
 try rw[← HR0.out]
 try rw[← HQ.out]
 refine (rightT_any t Ae Ak ne nk ce ck W N.out.1 R.out).mono ?_;rw[HY1.out];rintro e v1 ⟨rfl,hb9⟩;have HKc:=Lib.hid (HKc.out.later hb9);have R:=Lib.hid (RdT.later R.out hb9);have RD:=Lib.hid (RD.out.later hb9);have HKR:=Lib.hid (HKR.out.later hb9);have HFR:=Lib.hid (HFR.out.later hb9);clear hb9;clear c0 c1 c2 c3 c4
 cases y1 with
 | false=>
  have hz1:z=1:=by rw[← HZ.out];exact updE_bad (.inl HY1.out)
  obtain rfl:=hz1
  obtain rfl:k9=noneK:=by rw[← HK9.out];exact upd_not (by rw[HZ.out];omega)
  obtain⟨z0,z1,z2,-⟩:=HKR.out.cj;have m0:=HFR.out.2 0;have m1:=HFR.out.2 1;have m2:=HFR.out.2 2;obtain⟨W9,hW9⟩:∃ W,W=((v1.setCell ⟨r,0,none⟩ (.slice none 0 0)).setCell ⟨r,1,none⟩ (.slice none 0 0)).setCell ⟨r,2,none⟩ (.slice none 0 0):=⟨_,rfl⟩
  have HB9:Hid (Below w.heap.size w W9):=by
   unfold Hid;rw[hW9];exact ((HKc.out.below.setCell (p:=⟨r,0,none⟩) hwr _).setCell (p:=⟨r,1,none⟩) hwr _).setCell (p:=⟨r,2,none⟩) hwr _
  have l0:W9.cell? ⟨r,0,none⟩=some (.slice none 0 0):=by rw[hW9];go_simp
  have l1:W9.cell? ⟨r,1,none⟩=some (.slice none 0 0):=by rw[hW9];go_simp
  have l2:W9.cell? ⟨r,2,none⟩=some (.slice none 0 0):=by rw[hW9];go_simp
  have HW9:=Lib.hid hW9;clear hW9;go_wp2_with fail;rw[← HW9.out];refine bodyPost_ret (v:=.tuple #[.agg #[.slice none 0 0,.slice none 0 0,.slice none 0 0],.int .i64 1]) (by simp[results,Tryz.results51,go_sem,l0,l1,l2]) rfl ⟨none,0,0,none,0,0,none,0,0,rfl,OwC.no _ _,HB9.out⟩
 | true=>
  obtain⟨c0,c1,c2,c3,c4,-⟩:=HKc.out.cj;go_wp2_with fail;refine (rightK_any kd.1 kd.2 De Dk Dc de1 dk1 de2 dk2 dc1 dc2 v1 ND.out.2.1 RD.out.len ND.out.2.2 RD.out.tree RD.out.ctx).mono ?_;rw[show rightKB (kd.1,kd.2)=y2 from HY2.out];rintro e v2 ⟨rfl,hb9⟩;have HKc:=Lib.hid (HKc.out.later hb9);have R:=Lib.hid (RdT.later R.out hb9);have RD:=Lib.hid (RD.out.later hb9);have HKR:=Lib.hid (HKR.out.later hb9);have HFR:=Lib.hid (HFR.out.later hb9);clear hb9;clear c0 c1 c2 c3 c4
  cases y2 with
  | false=>
   have hz1:z=1:=by rw[← HZ.out];exact updE_bad (.inr (.inl HY2.out))
   obtain rfl:=hz1
   obtain rfl:k9=noneK:=by rw[← HK9.out];exact upd_not (by rw[HZ.out];omega)
   obtain⟨z0,z1,z2,-⟩:=HKR.out.cj;have m0:=HFR.out.2 0;have m1:=HFR.out.2 1;have m2:=HFR.out.2 2;obtain⟨W9,hW9⟩:∃ W,W=((v2.setCell ⟨r,0,none⟩ (.slice none 0 0)).setCell ⟨r,1,none⟩ (.slice none 0 0)).setCell ⟨r,2,none⟩ (.slice none 0 0):=⟨_,rfl⟩
   have HB9:Hid (Below w.heap.size w W9):=by
    unfold Hid;rw[hW9];exact ((HKc.out.below.setCell (p:=⟨r,0,none⟩) hwr _).setCell (p:=⟨r,1,none⟩) hwr _).setCell (p:=⟨r,2,none⟩) hwr _
   have l0:W9.cell? ⟨r,0,none⟩=some (.slice none 0 0):=by rw[hW9];go_simp
   have l1:W9.cell? ⟨r,1,none⟩=some (.slice none 0 0):=by rw[hW9];go_simp
   have l2:W9.cell? ⟨r,2,none⟩=some (.slice none 0 0):=by rw[hW9];go_simp
   have HW9:=Lib.hid hW9;clear hW9;go_wp2_with fail;rw[← HW9.out];refine bodyPost_ret (v:=.tuple #[.agg #[.slice none 0 0,.slice none 0 0,.slice none 0 0],.int .i64 1]) (by simp[results,Tryz.results51,go_sem,l0,l1,l2]) rfl ⟨none,0,0,none,0,0,none,0,0,rfl,OwC.no _ _,HB9.out⟩
  | true=>
   obtain⟨e1,he1⟩:∃ x,wrapE kd.1 [key]=x:=⟨_,rfl⟩;have HE1:=Lib.hid he1;clear he1;obtain⟨c0,c1,c2,c3,c4,-⟩:=HKc.out.cj;obtain⟨gs,hgs⟩:∃ g,g=v2.heap.size:=⟨_,rfl⟩;obtain⟨v3,hv3⟩:∃ W,W=v2.alloc (.cells #[.string key] 9):=⟨_,rfl⟩
   have hb9:Below v2.heap.size v2 v3:=by rw[hv3];exact Dt.box_below _ _ _
   have HKc:=Lib.hid (HKc.out.later hb9);have R:=Lib.hid (RdT.later R.out hb9);have RD:=Lib.hid (RD.out.later hb9);have HKR:=Lib.hid (HKR.out.later hb9);have HFR:=Lib.hid (HFR.out.later hb9);clear hb9
   have RS:Hid (Rd v3 v3.heap.size 1 (some ⟨gs,0,none⟩) 1 1 (strs [key])):=by unfold Hid;rw[hv3,hgs];exact rd_one1 _ _
   have Hgs:=Lib.hid hgs;have Hv3:=Lib.hid hv3;clear hgs hv3;go_wp2_with fail;rw[← Hgs.out,← Hv3.out];refine (wrap_any kd.1 De Dk de1 dk1 de2 dk2 [key] (some ⟨gs,0,none⟩) 1 1 v3 rfl (by omega) RS.out ND.out.1 (by have:=ND.out.2.1;omega) RD.out.tree).mono ?_;rw[HE1.out];rintro e v4 ⟨We,wn,wc,Wk,wm,wd,rfl,ho,hb9⟩;have HRT:Hid (RdO v4 (fun b=>r<b) (wrapR kd.1 [key]) ⟨We,wn,wc⟩ ⟨Wk,wm,wd⟩):=RdO.mono (fun b hb _=>Nat.lt_of_lt_of_le HFR.out.1 hb) _ ho;clear ho;have HKc:=Lib.hid (HKc.out.later hb9);have R:=Lib.hid (RdT.later R.out hb9);have RD:=Lib.hid (RD.out.later hb9);have HKR:=Lib.hid (HKR.out.later hb9);have HFR:=Lib.hid (HFR.out.later hb9);have RS:=Lib.hid (RS.out.later hb9);clear hb9;clear c0 c1 c2 c3 c4;clear RS;have hrs:=HFR.out.1;obtain⟨b,hb⟩:∃ g,g=v4.heap.size:=⟨_,rfl⟩;obtain⟨v5,hv5⟩:∃ W,W=v4.alloc (.cells #[.slice We wn wc,.slice Wk wm wd] 35):=⟨_,rfl⟩
   have hb9:Below v4.heap.size v4 v5:=by rw[hv5];exact Dt.box_below _ _ _
   have b0:v5.cell? ⟨b,0,none⟩=some (.slice We wn wc):=by rw[hv5,hb];go_simp
   have b1:v5.cell? ⟨b,1,none⟩=some (.slice Wk wm wd):=by rw[hv5,hb];go_simp
   have HKc:=Lib.hid (HKc.out.later hb9);have R:=Lib.hid (RdT.later R.out hb9);have RD:=Lib.hid (RD.out.later hb9);have HKR:=Lib.hid (HKR.out.later hb9);have HFR:=Lib.hid (HFR.out.later hb9);have HRT:=Lib.hid (RdO.later HRT.out hb9);clear hb9;have HKc:=Lib.hid ((HKc.out.cons_of b1).cons_of b0);have Hb:=Lib.hid hb;have Hv5:=Lib.hid hv5;clear hb hv5 b0 b1
   have HRB:Hid (r<b):=by unfold Hid;rw[Hb.out];exact hrs
   clear hrs;have HE3:=Lib.hid (wrapE_three kd.1 [key]);rw[HE1.out]at HE3;have he3:=HE3.out;clear HE3
   rcases he3 with rfl | rfl | rfl
   ·obtain⟨y3,hy3⟩:∃ y,mroomB t key kd.1=y:=⟨_,rfl⟩
    have HY3:=Lib.hid hy3;clear hy3;obtain⟨c0,c1,c2,c3,c4,c5,c6,-⟩:=HKc.out.cj;rw[Hv5.out]at c0 c1 c2 c3 c4 c5 c6;rw[Hb.out]at c0 c1;go_wp2_with fail;rw[← Hb.out,← Hv5.out];refine (mroom_any t Ae Ak ne nk ce ck kd.1 De Dk de1 dk1 de2 dk2 key v5 y3 HY3.out (Tr.rightB_iff.1 HY1.out) N.out.1 N.out.2 R.out RD.out.tree).mono ?_;rintro e v6 ⟨rfl,hb9⟩;have HKc:=Lib.hid (HKc.out.later hb9);have R:=Lib.hid (RdT.later R.out hb9);have RD:=Lib.hid (RD.out.later hb9);have HKR:=Lib.hid (HKR.out.later hb9);have HFR:=Lib.hid (HFR.out.later hb9);have HRT:=Lib.hid (RdO.later HRT.out hb9);clear hb9;clear c0 c1 c2 c3 c4 c5 c6
    cases y3 with
    | false=>
     have hz1:z=4:=by rw[← HZ.out];rw[updE_of HY1.out HY2.out HE1.out (by omega),HY3.out];rfl
     obtain rfl:=hz1
     obtain rfl:k9=noneK:=by rw[← HK9.out];exact upd_not (by rw[HZ.out];omega)
     obtain⟨z0,z1,z2,-⟩:=HKR.out.cj;have m0:=HFR.out.2 0;have m1:=HFR.out.2 1;have m2:=HFR.out.2 2;obtain⟨W9,hW9⟩:∃ W,W=((v6.setCell ⟨r,0,none⟩ (.slice none 0 0)).setCell ⟨r,1,none⟩ (.slice none 0 0)).setCell ⟨r,2,none⟩ (.slice none 0 0):=⟨_,rfl⟩
     have HB9:Hid (Below w.heap.size w W9):=by
      unfold Hid;rw[hW9];exact ((HKc.out.below.setCell (p:=⟨r,0,none⟩) hwr _).setCell (p:=⟨r,1,none⟩) hwr _).setCell (p:=⟨r,2,none⟩) hwr _
     have l0:W9.cell? ⟨r,0,none⟩=some (.slice none 0 0):=by rw[hW9];go_simp
     have l1:W9.cell? ⟨r,1,none⟩=some (.slice none 0 0):=by rw[hW9];go_simp
     have l2:W9.cell? ⟨r,2,none⟩=some (.slice none 0 0):=by rw[hW9];go_simp
     have HW9:=Lib.hid hW9;clear hW9;go_wp2_with fail;rw[← HW9.out];refine bodyPost_ret (v:=.tuple #[.agg #[.slice none 0 0,.slice none 0 0,.slice none 0 0],.int .i64 4]) (by simp[results,Tryz.results51,go_sem,l0,l1,l2]) rfl ⟨none,0,0,none,0,0,none,0,0,rfl,OwC.no _ _,HB9.out⟩
    | true=>
     have hz1:z=0:=by rw[← HZ.out,updE_of HY1.out HY2.out HE1.out (by omega),HY3.out];rfl
     obtain rfl:=hz1
     obtain rfl:k9=(wrapR kd.1 [key],kd.2):=by rw[← HK9.out];exact (upd_ok HZ.out).2.2.2
     have hrb:r<b:=HRB.out;obtain⟨c0,c1,c2,c3,c4,c5,c6,-⟩:=HKc.out.cj;go_wp2_with fail;clear c0 c1 c2 c3 c4 c5 c6;refine wp_region_held_drew (S:=Conj _) (by kernel_rfl) HKc.out.drew.cj (fun hHeld=>?_);obtain⟨v7,hv7⟩:∃ v,v=v6.drew:=⟨_,rfl⟩
     have hb9:Below v6.heap.size v6 v7:=by rw[hv7];exact (Below.refl _ _).drew
     have HKc:=Lib.hid (HKc.out.later hb9);have R:=Lib.hid (RdT.later R.out hb9);have RD:=Lib.hid (RD.out.later hb9);have HKR:=Lib.hid (HKR.out.later hb9);have HFR:=Lib.hid (HFR.out.later hb9);have HRT:=Lib.hid (RdO.later HRT.out hb9);clear hb9;rw[← hv7]at hHeld ⊢;clear hv7;refine Tk 0 41 ?_;refine Tk 1 42 ?_;refine Tc 2 (fun K hK=>?_);go_simp;(go_at_call 107;refine (cloneK_any kd.1 kd.2 De Dk Dc de1 dk1 de2 dk2 dc1 dc2 v7 ND.out.2.1 RD.out.len ND.out.2.2 RD.out.tree RD.out.ctx).mono ?_);rintro e v8 ⟨Xe,xe1,xe2,Xk,xk1,xk2,Xc,xc1,xc2,rfl,how,hb9⟩;rw[show rightKB (kd.1,kd.2)=true from HY2.out,if_pos rfl]at how;have HRX:Hid (kd.2.length=xc1∧RO v8 (fun b=>r<b) 3 Xc xc1 xc2 (spsC kd.2)):=⟨how.len,how.ctx.mono fun b hb _=>Nat.lt_of_lt_of_le HFR.out.1 hb⟩;clear how;have HKc:=Lib.hid (HKc.out.later hb9);have R:=Lib.hid (RdT.later R.out hb9)
     have RD:=Lib.hid (RD.out.later hb9);have HKR:=Lib.hid (HKR.out.later hb9);have HFR:=Lib.hid (HFR.out.later hb9);have HRT:=Lib.hid (RdO.later HRT.out hb9);clear hb9
     have hfd:∀ w:World,(Instr.field 42 (.agg #[.slice Xe xe1 xe2,.slice Xk xk1 xk2,.slice Xc xc1 xc2]) 1).run Tryz.prog w = .ok (.slice Xc xc1 xc2) w:=fun _=>by kernel_rfl
     obtain⟨z0,z1,z2,-⟩:=HKR.out.cj;have m0:=HFR.out.2 0;have m1:=HFR.out.2 1;have m2:=HFR.out.2 2;clear hHeld;refine Th hK ?_ (fun hHeld=>?_)
     ·exact HKc.out.cj
     clear hK K;refine Tk 3 44 ?_;refine Tk 4 45 ?_;refine Tc 5 (fun K hK=>?_);go_simp;refine Th hK ?_ (fun hHeld2=>?_)
     ·(try dsimp only)
      have h9:=HKc.out.st3 (g:=r) hwr (fun x hx=>by simp at hx;rcases hx with rfl | rfl | rfl | rfl | rfl | rfl | rfl <;> (dsimp only;omega)) (.slice We wn wc) (.slice Wk wm wd) (.slice Xc xc1 xc2)
      exact h9.cj
     clear hK K hHeld;have hHeld:=hHeld2;clear hHeld2;refine Tk 6 7 ?_;refine wpAnyH_done (by kernel_rfl) ?_ _;clear hHeld;obtain⟨z0,z1,z2,-⟩:=HKR.out.cj;have m0:=HFR.out.2 0;have m1:=HFR.out.2 1;have m2:=HFR.out.2 2;obtain⟨W9,hW9⟩:∃ W,W=((v8.setCell ⟨r,0,none⟩ (.slice We wn wc)).setCell ⟨r,1,none⟩ (.slice Wk wm wd)).setCell ⟨r,2,none⟩ (.slice Xc xc1 xc2):=⟨_,rfl⟩
     have HB9:Hid (Below w.heap.size w W9):=by
      unfold Hid;rw[hW9];exact ((HKc.out.below.setCell (p:=⟨r,0,none⟩) hwr _).setCell (p:=⟨r,1,none⟩) hwr _).setCell (p:=⟨r,2,none⟩) hwr _
     have HO9:Hid (OwC W9 w.heap.size (wrapR kd.1 [key],kd.2) We wn wc Wk wm wd Xc xc1 xc2):=by
      unfold Hid;rw[hW9];exact⟨RdO.mono (fun b hb _=>Nat.le_trans hwr (Nat.le_of_lt hb)) _ (RdO.keep (by rw[cells3];exact Nat.le_refl _) (fun b hb _=>cells3_at b (by omega)) _ HRT.out),HRX.out.1,(HRX.out.2.keep (by rw[cells3];exact Nat.le_refl _) (fun b hb _=>cells3_at b (by omega))).mono fun b hb _=>Nat.le_trans hwr (Nat.le_of_lt hb)⟩
     have l0:W9.cell? ⟨r,0,none⟩=some (.slice We wn wc):=by rw[hW9];go_simp
     have l1:W9.cell? ⟨r,1,none⟩=some (.slice Wk wm wd):=by rw[hW9];go_simp
     have l2:W9.cell? ⟨r,2,none⟩=some (.slice Xc xc1 xc2):=by rw[hW9];go_simp
     have HW9:=Lib.hid hW9;clear hW9 z0 z1 z2 m0 m1 m2;rw[← HW9.out];go_wp2_with fail;refine bodyPost_ret (v:=.tuple #[.agg #[.slice We wn wc,.slice Wk wm wd,.slice Xc xc1 xc2],.int .i64 0]) (by simp[results,Tryz.results51,go_sem,l0,l1,l2]) rfl ⟨We,wn,wc,Wk,wm,wd,Xc,xc1,xc2,rfl,HO9.out,HB9.out⟩
   ·have c0:=HKc.out.c0
    have c1:=HKc.out.c1;have c2:=HKc.out.c2;have c3:=HKc.out.c3;have c4:=HKc.out.c4;have c5:=HKc.out.c5;have c6:=HKc.out.c6;rw[Hv5.out]at c0 c1 c2 c3 c4 c5 c6;rw[Hb.out]at c0 c1
    have hz1:z=1:=by rw[← HZ.out];exact updE_bad (.inr (.inr HE1.out))
    obtain rfl:=hz1
    obtain rfl:k9=noneK:=by rw[← HK9.out];exact upd_not (by rw[HZ.out];omega)
    obtain⟨z0,z1,z2,-⟩:=HKR.out.cj;have m0:=HFR.out.2 0;have m1:=HFR.out.2 1;have m2:=HFR.out.2 2;obtain⟨W9,hW9⟩:∃ W,W=((v5.setCell ⟨r,0,none⟩ (.slice none 0 0)).setCell ⟨r,1,none⟩ (.slice none 0 0)).setCell ⟨r,2,none⟩ (.slice none 0 0):=⟨_,rfl⟩
    have HB9:Hid (Below w.heap.size w W9):=by
     unfold Hid;rw[hW9];exact ((HKc.out.below.setCell (p:=⟨r,0,none⟩) hwr _).setCell (p:=⟨r,1,none⟩) hwr _).setCell (p:=⟨r,2,none⟩) hwr _
    have l0:W9.cell? ⟨r,0,none⟩=some (.slice none 0 0):=by rw[hW9];go_simp
    have l1:W9.cell? ⟨r,1,none⟩=some (.slice none 0 0):=by rw[hW9];go_simp
    have l2:W9.cell? ⟨r,2,none⟩=some (.slice none 0 0):=by rw[hW9];go_simp
    have HW9:=Lib.hid hW9;clear hW9;rw[Hv5.out]at z0 z1 z2 m0 m1 m2;go_wp2_with fail;rw[← Hb.out,← Hv5.out];rw[← HW9.out];refine bodyPost_ret (v:=.tuple #[.agg #[.slice none 0 0,.slice none 0 0,.slice none 0 0],.int .i64 1]) (by simp[results,Tryz.results51,go_sem,l0,l1,l2]) rfl ⟨none,0,0,none,0,0,none,0,0,rfl,OwC.no _ _,HB9.out⟩
   ·obtain⟨y3,hy3⟩:∃ y,mroomB t key kd.1=y:=⟨_,rfl⟩
    have HY3:=Lib.hid hy3;clear hy3;obtain⟨c0,c1,c2,c3,c4,c5,c6,-⟩:=HKc.out.cj;rw[Hv5.out]at c0 c1 c2 c3 c4 c5 c6;rw[Hb.out]at c0 c1;go_wp2_with fail;rw[← Hb.out,← Hv5.out];refine (mroom_any t Ae Ak ne nk ce ck kd.1 De Dk de1 dk1 de2 dk2 key v5 y3 HY3.out (Tr.rightB_iff.1 HY1.out) N.out.1 N.out.2 R.out RD.out.tree).mono ?_;rintro e v6 ⟨rfl,hb9⟩;have HKc:=Lib.hid (HKc.out.later hb9);have R:=Lib.hid (RdT.later R.out hb9);have RD:=Lib.hid (RD.out.later hb9);have HKR:=Lib.hid (HKR.out.later hb9);have HFR:=Lib.hid (HFR.out.later hb9);have HRT:=Lib.hid (RdO.later HRT.out hb9);clear hb9;clear c0 c1 c2 c3 c4 c5 c6
    cases y3 with
    | false=>
     have hz1:z=4:=by rw[← HZ.out];rw[updE_of HY1.out HY2.out HE1.out (by omega),HY3.out];rfl
     obtain rfl:=hz1
     obtain rfl:k9=noneK:=by rw[← HK9.out];exact upd_not (by rw[HZ.out];omega)
     obtain⟨z0,z1,z2,-⟩:=HKR.out.cj;have m0:=HFR.out.2 0;have m1:=HFR.out.2 1;have m2:=HFR.out.2 2;obtain⟨W9,hW9⟩:∃ W,W=((v6.setCell ⟨r,0,none⟩ (.slice none 0 0)).setCell ⟨r,1,none⟩ (.slice none 0 0)).setCell ⟨r,2,none⟩ (.slice none 0 0):=⟨_,rfl⟩
     have HB9:Hid (Below w.heap.size w W9):=by
      unfold Hid;rw[hW9];exact ((HKc.out.below.setCell (p:=⟨r,0,none⟩) hwr _).setCell (p:=⟨r,1,none⟩) hwr _).setCell (p:=⟨r,2,none⟩) hwr _
     have l0:W9.cell? ⟨r,0,none⟩=some (.slice none 0 0):=by rw[hW9];go_simp
     have l1:W9.cell? ⟨r,1,none⟩=some (.slice none 0 0):=by rw[hW9];go_simp
     have l2:W9.cell? ⟨r,2,none⟩=some (.slice none 0 0):=by rw[hW9];go_simp
     have HW9:=Lib.hid hW9;clear hW9;go_wp2_with fail;rw[← HW9.out];refine bodyPost_ret (v:=.tuple #[.agg #[.slice none 0 0,.slice none 0 0,.slice none 0 0],.int .i64 4]) (by simp[results,Tryz.results51,go_sem,l0,l1,l2]) rfl ⟨none,0,0,none,0,0,none,0,0,rfl,OwC.no _ _,HB9.out⟩
    | true=>
     have hz1:z=10:=by rw[← HZ.out];rw[updE_of HY1.out HY2.out HE1.out (by omega),HY3.out];rfl
     obtain rfl:=hz1
     obtain rfl:k9=noneK:=by rw[← HK9.out];exact upd_not (by rw[HZ.out];omega)
     obtain⟨z0,z1,z2,-⟩:=HKR.out.cj;have m0:=HFR.out.2 0;have m1:=HFR.out.2 1;have m2:=HFR.out.2 2;obtain⟨W9,hW9⟩:∃ W,W=((v6.setCell ⟨r,0,none⟩ (.slice none 0 0)).setCell ⟨r,1,none⟩ (.slice none 0 0)).setCell ⟨r,2,none⟩ (.slice none 0 0):=⟨_,rfl⟩
     have HB9:Hid (Below w.heap.size w W9):=by
      unfold Hid;rw[hW9];exact ((HKc.out.below.setCell (p:=⟨r,0,none⟩) hwr _).setCell (p:=⟨r,1,none⟩) hwr _).setCell (p:=⟨r,2,none⟩) hwr _
     have l0:W9.cell? ⟨r,0,none⟩=some (.slice none 0 0):=by rw[hW9];go_simp
     have l1:W9.cell? ⟨r,1,none⟩=some (.slice none 0 0):=by rw[hW9];go_simp
     have l2:W9.cell? ⟨r,2,none⟩=some (.slice none 0 0):=by rw[hW9];go_simp
     have HW9:=Lib.hid hW9;clear hW9;go_wp2_with fail;rw[← HW9.out];refine bodyPost_ret (v:=.tuple #[.agg #[.slice none 0 0,.slice none 0 0,.slice none 0 0],.int .i64 10]) (by simp[results,Tryz.results51,go_sem,l0,l1,l2]) rfl ⟨none,0,0,none,0,0,none,0,0,rfl,OwC.no _ _,HB9.out⟩
end Cs
end Go.Proofs.YtgeafpaognhokaaGreat
namespace Go.Proofs.YtgeafpaognhokaaGreat
open Go.ChangeShapes Go.WideShapes Go.ChangeAt Go.RowKit
namespace Cs
open Tr Cx Sp Rw Classical
theorem boxVV (w:World) (ka na kb nb:Int) (oa ob:Bool) (A B:Option Addr) (la ca lb cb:Nat):∃ (W:World) (p q:Nat),Hid (W=((w.alloc (.cells #[.int .i64 ka,.bool oa,.int .i64 na,.slice A la ca] 51)).alloc (.cells #[.int .i64 kb,.bool ob,.int .i64 nb,.slice B lb cb] 51)))∧Hid (p=w.heap.size)∧Hid (q=p+1)∧Hid (Kept [(⟨p,0,none⟩,.int .i64 ka),(⟨p,1,none⟩,.bool oa),(⟨p,2,none⟩,.int .i64 na),(⟨p,3,none⟩,.slice A la ca),(⟨q,0,none⟩,.int .i64 kb),(⟨q,1,none⟩,.bool ob),(⟨q,2,none⟩,.int .i64 nb),(⟨q,3,none⟩,.slice B lb cb)] w W):=by
 refine⟨_,_,_,rfl,rfl,rfl,?_⟩;have h0:=Kept.nil_of (show Below w.heap.size w (((w.alloc (.cells #[.int .i64 ka,.bool oa,.int .i64 na,.slice A la ca] 51)).alloc (.cells #[.int .i64 kb,.bool ob,.int .i64 nb,.slice B lb cb] 51))) from ((Below.refl _ _).alloc (Nat.le_refl _) _).alloc (by simp) _)
 refine ((((((((h0).cons_of ?_).cons_of ?_).cons_of ?_).cons_of ?_).cons_of ?_).cons_of ?_).cons_of ?_).cons_of ?_ <;> go_simp
set_option maxRecDepth 100000 in
set_option maxHeartbeats 4000000 in
theorem refsameV_any (ka na kb nb:Int) (oa ob:Bool) (a b:List ByteArray) (A B:Option Addr) (la ca lb cb:Nat) (w:World) (z:Bool) (hz:decide (ka=kb∧oa=ob∧na=nb∧a=b)=z) (hn:la≤1000) (hra:Rd w w.heap.size 1 A la ca (Tr.strs a)) (hrb:Rd w w.heap.size 1 B lb cb (Tr.strs b)) :
  Calls Tryz.prog 25 #[.agg #[.int .i64 ka,.bool oa,.int .i64 na,.slice A la ca],.agg #[.int .i64 kb,.bool ob,.int .i64 nb,.slice B lb cb]] w fun e w'=>e = .returned (.bool z)∧Below w.heap.size w w':=by
 obtain⟨W,p,q,HW,HP,HQ,HKc⟩:=boxVV w ka na kb nb oa ob A B la ca lb cb;have RA:=Lib.hid (hra.later HKc.out.below);have RB:=Lib.hid (hrb.later HKc.out.below);have HZ:=Lib.hid hz;have HN:=Lib.hid hn;clear hz hn hra hrb
 by_cases h1:ka=kb
 ·subst h1
  have g1:(ka==ka)=true:=by simp
  by_cases h2:oa=ob
  ·subst h2
   have g2:(oa==oa)=true:=by simp
   by_cases h3:na=nb
   ·subst h3
    have g3:(na==na)=true:=by simp
    have HZ4:Hid (decide (a=b)=z):=by
     unfold Hid;rw[← HZ.out];exact decide_eq_decide.2 ⟨fun h=>⟨rfl,rfl,rfl,h⟩,fun h=>h.2.2.2⟩
    obtain⟨c0,c1,c2,c3,c4,c5,c6,c7,-⟩:=HKc.out.cj;rw[HW.out]at c0 c1 c2 c3 c4 c5 c6 c7;(try rw[HQ.out]at c0 c1 c2 c3 c4 c5 c6 c7);(try rw[HP.out]at c0 c1 c2 c3 c4 c5 c6 c7);go_enter Tryz.func25,Tryz.ntmps25;go_wp2_with fail;rw[← HW.out,← HP.out]
    try rw[← HQ.out]
    refine (refalike_any a b la lb A B ca cb W HN.out RA.out RB.out z HZ4.out).mono ?_;rintro e v1 ⟨rfl,hb9⟩;have HKc:=Lib.hid (HKc.out.later hb9);clear hb9 c0 c1 c2 c3 c4 c5 c6 c7;go_wp2_with fail;go_ret;exact⟨by first | rfl | simp,HKc.out.below⟩
   ·have g3:(na==nb)=false:=by simpa using h3
    obtain rfl:z=false:=by
     rw[← HZ.out];exact decide_eq_false fun h=>h3 h.2.2.1
    clear h3;obtain⟨c0,c1,c2,c3,c4,c5,c6,c7,-⟩:=HKc.out.cj;rw[HW.out]at c0 c1 c2 c3 c4 c5 c6 c7;(try rw[HQ.out]at c0 c1 c2 c3 c4 c5 c6 c7);(try rw[HP.out]at c0 c1 c2 c3 c4 c5 c6 c7);go_enter Tryz.func25,Tryz.ntmps25;go_wp2_with fail;go_ret;exact⟨by first | rfl | simp,by have h:=HKc.out.below;rw[HW.out]at h;exact h⟩
  ·have g2:(oa==ob)=false:=by simpa using h2
   obtain rfl:z=false:=by
    rw[← HZ.out];exact decide_eq_false fun h=>h2 h.2.1
   clear h2;obtain⟨c0,c1,c2,c3,c4,c5,c6,c7,-⟩:=HKc.out.cj;rw[HW.out]at c0 c1 c2 c3 c4 c5 c6 c7;(try rw[HQ.out]at c0 c1 c2 c3 c4 c5 c6 c7);(try rw[HP.out]at c0 c1 c2 c3 c4 c5 c6 c7);go_enter Tryz.func25,Tryz.ntmps25;go_wp2_with fail;go_ret;exact⟨by first | rfl | simp,by have h:=HKc.out.below;rw[HW.out]at h;exact h⟩
 ·have g1:(ka==kb)=false:=by simpa using h1
  obtain rfl:z=false:=by
   rw[← HZ.out];exact decide_eq_false fun h=>h1 h.1
  clear h1;obtain⟨c0,c1,c2,c3,c4,c5,c6,c7,-⟩:=HKc.out.cj;rw[HW.out]at c0 c1 c2 c3 c4 c5 c6 c7;(try rw[HQ.out]at c0 c1 c2 c3 c4 c5 c6 c7);(try rw[HP.out]at c0 c1 c2 c3 c4 c5 c6 c7);go_enter Tryz.func25,Tryz.ntmps25;go_wp2_with fail;go_ret;exact⟨by first | rfl | simp,by have h:=HKc.out.below;rw[HW.out]at h;exact h⟩
end Cs
end Go.Proofs.YtgeafpaognhokaaGreat
namespace Go.Proofs.YtgeafpaognhokaaGreat
open Go.ChangeShapes Go.WideShapes Go.ChangeAt Go.RowKit
namespace Cs
open Tr Cx Sp Rw Classical
end Cs
end Go.Proofs.YtgeafpaognhokaaGreat
namespace Go.Proofs.YtgeafpaognhokaaGreat
open Go.ChangeShapes Go.WideShapes Go.ChangeAt Go.RowKit
namespace Cs
open Tr Cx Sp Rw Classical
end Cs
end Go.Proofs.YtgeafpaognhokaaGreat
namespace Go.Proofs.YtgeafpaognhokaaGreat
open Go.ChangeShapes Go.WideShapes Go.ChangeAt Go.RowKit
namespace Cs
open Tr Cx Sp Rw Classical
def MidJ (v:World) (g:Nat) (p:CP) (w:World):Prop:=RdP w p∧Kept [(⟨g,0,none⟩,.slice p.e.A p.e.n p.e.c),(⟨g,1,none⟩,.slice p.d.A p.d.n p.d.c),(⟨g,2,none⟩,.slice p.c.A p.c.n p.c.c)] v w
theorem AllJ.rot {a:K} {l:List K} {x y:K} (h:AllJ (a::l) x) (h2:AllJ (l++[a]) y):x=y:=ext_st h.right h2.right fun p q=>by
 rw[h.st,h2.st,stAll_append,stAll_one];exact mx_comm (st_at a p q) (stAll_at l p q)
end Cs
end Go.Proofs.YtgeafpaognhokaaGreat
