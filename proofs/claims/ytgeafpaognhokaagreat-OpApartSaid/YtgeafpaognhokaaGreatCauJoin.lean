/- Two joined, and compared. -/
import Derived.Test.YtgeafpaognhokaaGreatG00
import Derived.Test.YtgeafpaognhokaaGreatG50
import Derived.Test.YtgeafpaognhokaaGreatG10
set_option maxRecDepth 100000
set_option maxHeartbeats 4000000
namespace Go.Proofs.YtgeafpaognhokaaGreat
open Go.ChangeShapes Go.WideShapes Go.ChangeAt Go.RowKit
namespace Cs
open Tr Cx Sp Rw Classical
structure OwC (w':World) (lo:Nat) (k:K) (Ae:Option Addr) (ne ce:Nat) (Ak:Option Addr) (nk ck:Nat) (Ca:Option Addr) (na ca9:Nat):Prop where
 tree:RdO w' (fun b=>lo≤b) k.1 ⟨Ae,ne,ce⟩ ⟨Ak,nk,ck⟩
 len:k.2.length=na
 ctx:RO w' (fun b=>lo≤b) 3 Ca na ca9 (spsC k.2)
theorem OwC.later {w w':World} {lo:Nat} {k:K} {Ae Ak Ca:Option Addr} {ne ce nk ck na ca9:Nat} (h:OwC w lo k Ae ne ce Ak nk ck Ca na ca9) (hb:Below w.heap.size w w'):OwC w' lo k Ae ne ce Ak nk ck Ca na ca9:=⟨RdO.later h.tree hb,h.len,h.ctx.keep hb.size fun b _ hlt=>hb.block b hlt⟩
theorem OwC.mono {w:World} {lo lo':Nat} {k:K} {Ae Ak Ca:Option Addr} {ne ce nk ck na ca9:Nat} (h:OwC w lo k Ae ne ce Ak nk ck Ca na ca9) (hl:lo'≤lo):OwC w lo' k Ae ne ce Ak nk ck Ca na ca9:=⟨RdO.mono (fun _ hb _=>Nat.le_trans hl hb) _ h.tree,h.len,h.ctx.mono fun _ hb _=>Nat.le_trans hl hb⟩
theorem OwC.rdT {w:World} {lo:Nat} {k:K} {Ae Ak Ca:Option Addr} {ne ce nk ck na ca9:Nat} (h:OwC w lo k Ae ne ce Ak nk ck Ca na ca9):RdT w w.heap.size k.1 ⟨Ae,ne,ce⟩ ⟨Ak,nk,ck⟩:=RdO.rd _ h.tree
theorem OwC.no (w:World) (lo:Nat):OwC w lo noneK none 0 0 none 0 0 none 0 0:=⟨RdO.none _ _ _ _ _ _,rfl,RO.nil _ _ _ _ _⟩
theorem OwC.set3 {w:World} {lo r:Nat} {k:K} {Ae Ak Ca:Option Addr} {ne ce nk ck na ca9:Nat} (h:OwC w lo k Ae ne ce Ak nk ck Ca na ca9) (hr:r<lo) (v0 v1 v2:Value):OwC (((w.setCell ⟨r,0,none⟩ v0).setCell ⟨r,1,none⟩ v1).setCell ⟨r,2,none⟩ v2) lo k Ae ne ce Ak nk ck Ca na ca9:=by
 have hk:∀ b,lo≤b→(((w.setCell ⟨r,0,none⟩ v0).setCell ⟨r,1,none⟩ v1).setCell ⟨r,2,none⟩ v2).heap[b]?=w.heap[b]?:=fun b hb=>
  ((Below.heap_setCell _ ⟨r,2,none⟩ _ b (fun e=>by have h:b=r:=e;omega)).trans (Below.heap_setCell _ ⟨r,1,none⟩ _ b (fun e=>by have h:b=r:=e;omega))).trans (Below.heap_setCell _ ⟨r,0,none⟩ _ b (fun e=>by have h:b=r:=e;omega))
 exact⟨RdO.keep (by simp[World.setCell]) (fun b hb _=>hk b hb) _ h.tree,h.len,h.ctx.keep (by simp[World.setCell]) fun b hb _=>hk b hb⟩
def CausIs (k:K) (w:World) (e:Ending) (w':World):Prop:=∃ Ae ne ce Ak nk ck Ca na ca9,e = .returned (.agg #[.slice Ae ne ce,.slice Ak nk ck,.slice Ca na ca9])∧OwC w' w.heap.size k Ae ne ce Ak nk ck Ca na ca9∧Below w.heap.size w w'
def CausErr (k:K) (x:Int) (w:World) (e:Ending) (w':World):Prop:=∃ Ae ne ce Ak nk ck Ca na ca9,e = .returned (.tuple #[.agg #[.slice Ae ne ce,.slice Ak nk ck,.slice Ca na ca9],.int .i64 x])∧OwC w' w.heap.size k Ae ne ce Ak nk ck Ca na ca9∧Below w.heap.size w w'
theorem copiedC_any (cs:List S3) (Ca:Option Addr) (na ca9:Nat) (w:World) (hl:cs.length=na) (hna:na≤1000) (hc:Rd w w.heap.size 3 Ca na ca9 (spsC cs)) :
  Calls Tryz.prog 147 #[.slice Ca na ca9] w fun e w'=>∃ A c,e = .returned (.slice A na c)∧RO w' (fun b=>w.heap.size≤b) 3 A na c (spsC cs)∧Below w.heap.size w w':=by
 obtain⟨A2,c2,w2,h1,h2,h3⟩:=appsC (w:=w) (base:=w.heap.size) (n:=0) (m:=na) (c:=0) (c':=ca9) (A:=none) (A':=Ca) (xs:=[]) (ys:=cs) ⟨World.ownsRow_nil _ _ _ _,by simp[spsC]⟩ hc (by omega) (Nat.le_refl _);rw[Nat.zero_add]at h1 h2;rw[List.nil_append]at h2;have Hrun:=Lib.hid h1;have HR:Hid (RO w2 (fun b=>w.heap.size≤b) 3 A2 na c2 (spsC cs)∧Below w.heap.size w w2):=⟨(RO.of_own h2).mono fun _ hb _=>hb.1,h3⟩;clear h1 h2 h3 hc hl;go_enter Tryz.func147,Tryz.ntmps147;go_wp2_with (at_builtin;refine Lib.wpList_append_run _ rfl _ _ _ _ rfl _ _ rfl rfl _ _ Hrun.out ?_);go_ret;exact⟨A2,c2,rfl,HR.out⟩
theorem boxC3 (w:World) (Ae Ak Ca Be Bk Cb:Option Addr) (ne nk ce ck na ca9 me mk de dk nb cb9:Nat):∃ (W:World) (p q r:Nat),Hid (W=((w.alloc (.cells #[.slice Ae ne ce,.slice Ak nk ck,.slice Ca na ca9] 42)).alloc (.cells #[.slice Be me de,.slice Bk mk dk,.slice Cb nb cb9] 42)).alloc (.cells #[.slice none 0 0,.slice none 0 0,.slice none 0 0] 42))∧Hid (p=w.heap.size)∧Hid (q=p+1)∧Hid (r=p+1+1)∧Hid (Kept [(⟨p,0,none⟩,.slice Ae ne ce),(⟨p,1,none⟩,.slice Ak nk ck),(⟨p,2,none⟩,.slice Ca na ca9),(⟨q,0,none⟩,.slice Be me de),(⟨q,1,none⟩,.slice Bk mk dk),(⟨q,2,none⟩,.slice Cb nb cb9)] w W)∧Hid (Kept [(⟨r,0,none⟩,.slice none 0 0),(⟨r,1,none⟩,.slice none 0 0),(⟨r,2,none⟩,.slice none 0 0)] w W)∧Hid (Free r W):=by
 refine⟨_,_,_,_,rfl,rfl,rfl,rfl,?_,?_,⟨by simp,fun j=>by go_simp⟩⟩
 ·have h0:=Kept.nil_of (box3_below w #[.slice Ae ne ce,.slice Ak nk ck,.slice Ca na ca9] #[.slice Be me de,.slice Bk mk dk,.slice Cb nb cb9] #[.slice none 0 0,.slice none 0 0,.slice none 0 0] 42 42 42)
  refine (((((h0.cons_of ?_).cons_of ?_).cons_of ?_).cons_of ?_).cons_of ?_).cons_of ?_ <;> go_simp
 ·have h0:=Kept.nil_of (box3_below w #[.slice Ae ne ce,.slice Ak nk ck,.slice Ca na ca9] #[.slice Be me de,.slice Bk mk dk,.slice Cb nb cb9] #[.slice none 0 0,.slice none 0 0,.slice none 0 0] 42 42 42)
  refine ((h0.cons_of ?_).cons_of ?_).cons_of ?_ <;> go_simp
theorem join0_any (t u:T) (cs ds:List S3) (Ae Ak Ca Be Bk Cb:Option Addr) (ne nk ce ck na ca9 me mk de dk nb cb9:Nat) (w:World) (hn:nodes t≤1000) (hl:cs.length=na) (hna:na≤1000) (hr:RdT w w.heap.size t ⟨Ae,ne,ce⟩ ⟨Ak,nk,ck⟩) (hc:Rd w w.heap.size 3 Ca na ca9 (spsC cs)) (hn2:nodes u≤1000) (hl2:ds.length=nb) (hnb:nb≤1000) (hr2:RdT w w.heap.size u ⟨Be,me,de⟩ ⟨Bk,mk,dk⟩) (hc2:Rd w w.heap.size 3 Cb nb cb9 (spsC ds)) (ht:RightT 5 t) (hu:RightT 5 u) (hcs:RightC cs) (hds:RightC ds) :
  Calls Tryz.prog 71 #[.agg #[.slice Ae ne ce,.slice Ak nk ck,.slice Ca na ca9],.agg #[.slice Be me de,.slice Bk mk dk,.slice Cb nb cb9]] w fun e w'=>∃ x,IsJ (t,cs) (u,ds) x∧x.2.length≤na+nb∧CausIs x w e w':=by
 have HT:=Lib.hid (And.intro ht (And.intro hu (And.intro hcs hds)));clear ht hu hcs hds;have HA:=Lib.hid (And.intro hn (And.intro hl (And.intro hr hc)));clear hn hl hr hc;have HB:=Lib.hid (And.intro hn2 (And.intro hl2 (And.intro hr2 hc2)));clear hn2 hl2 hr2 hc2;obtain⟨W,p,q,r,HW,HP,HQ,HR,HKc,HKR,HFR⟩:=boxC3 w Ae Ak Ca Be Bk Cb ne nk ce ck na ca9 me mk de dk nb cb9
 have hwr:w.heap.size≤r:=by have:=HP.out;have:=HR.out;omega
 have hpr:p<r:=by have:=HR.out;omega
 have hqr:q<r:=by have:=HQ.out;have:=HR.out;omega
 have HKc:=Lib.hid HKc.out.drew;have HKR:=Lib.hid HKR.out.drew;have HFR:=Lib.hid HFR.out.drew;go_enter Tryz.func71,Tryz.ntmps71;go_wp2_with fail;rw[← HW.out,← HP.out,← HR.out]
 try rw[← HQ.out]
 refine wp_region_held_drew (S:=Conj _) (by kernel_rfl) HKc.out.cj (fun hHeld=>?_);obtain⟨w1,hw1⟩:∃ v,v=W.drew:=⟨_,rfl⟩;rw[← hw1]at hHeld HKc HKR HFR ⊢;clear hw1;refine Tk 0 5 ?_;refine Tk 1 6 ?_;refine Tk 3 8 ?_;refine Tk 4 9 ?_;refine Tk 5 10 ?_;refine Tk 6 11 ?_;refine Tc 2 (fun K hK=>?_);go_simp;(go_at_call 124;refine (trees_step 4 (fun ca cb=>trees_ok 4 ca cb) cs ds t u Ae Ak Be Bk Ca Cb ne nk ce ck me mk de dk na ca9 nb cb9 w1 (.inl HT.out.1) (.inl HT.out.2.1) (by have:=HA.out.1;omega) (by have:=HB.out.1;omega) HA.out.2.1 HB.out.2.1 (by omega) (by omega) ((HA.out.2.2.2.below HKc.out.below).more HKc.out.below.size) ((HB.out.2.2.2.below HKc.out.below).more HKc.out.below.size) HT.out.2.2.1 HT.out.2.2.2 (RdT.more HKc.out.below.size _ (RdT.below HA.out.2.2.1 HKc.out.below)) (RdT.more HKc.out.below.size _ (RdT.below HB.out.2.2.1 HKc.out.below))).mono ?_)
 rintro e v2 ⟨Re,rn,rc,Rk,rm,rd,rfl,hro,hb9⟩;obtain⟨B1,hB1⟩:∃ z,z=w1.heap.size:=⟨_,rfl⟩
 have hrB:r<B1:=by rw[hB1];exact HFR.out.1
 have HWB:Hid (w.heap.size≤B1):=by unfold Hid;rw[hB1];exact HKc.out.below.size
 have HRO:Hid (RdO v2 (fun b=>B1≤b) (joinT 5 cs ds t u) ⟨Re,rn,rc⟩ ⟨Rk,rm,rd⟩):=by unfold Hid;rw[hB1];exact hro
 have hB2:B1≤v2.heap.size:=by rw[hB1];exact hb9.size
 have HKc:=Lib.hid (HKc.out.later hb9);have HKR:=Lib.hid (HKR.out.later hb9);have HFR:=Lib.hid (HFR.out.later hb9);clear hro hb9 hB1;clear hHeld;refine Th hK ?_ (fun hHeld=>?_)
 ·exact HKc.out.cj
 clear hK K;refine Tc 7 (fun K hK=>?_);go_simp;(go_at_call 125;refine (unionC_any cs ds na nb Ca Cb ca9 cb9 v2 HA.out.2.1 HB.out.2.1 (by omega) (by omega) ((HA.out.2.2.2.below HKc.out.below).more HKc.out.below.size) ((HB.out.2.2.2.below HKc.out.below).more HKc.out.below.size) HT.out.2.2.1 HT.out.2.2.2).mono ?_);rintro e v7 ⟨xs,rq,Rc,re,rfl,hxl,hxp,hxq,hxo,hb9⟩;have HXP:Hid (IsJ (t,cs) (u,ds) (joinT 5 cs ds t u,xs)):=⟨rfl,hxp.out⟩;have HOW:Hid (OwC v7 B1 (joinT 5 cs ds t u,xs) Re rn rc Rk rm rd Rc rq re):=⟨RdO.later HRO.out hb9,hxl.out,(RO.of_own hxo.out).mono fun b hb _=>by have:=hb.1;omega⟩;have HXQ:Hid (rq≤na+nb):=hxq;have HKc:=Lib.hid (HKc.out.later hb9);have HKR:=Lib.hid (HKR.out.later hb9);have HFR:=Lib.hid (HFR.out.later hb9);clear hb9 hxl hxp hxq hxo HRO;obtain⟨z0,z1,z2,-⟩:=HKR.out.cj;have m0:=HFR.out.2 0
 have m1:=HFR.out.2 1;have m2:=HFR.out.2 2;clear hHeld;refine Th hK ?_ (fun hHeld=>?_)
 ·exact HKc.out.cj
 clear hK K;refine Tk 8 13 ?_;refine Tc 9 (fun K hK=>?_);go_simp;refine Th hK ?_ (fun hHeld2=>?_)
 ·(try dsimp only)
  have h9:=HKc.out.past3 (p:=r) hwr (fun x hx=>by simp at hx;rcases hx with rfl | rfl | rfl | rfl | rfl | rfl <;> (dsimp only;omega)) (.slice Re rn rc) (.slice Rk rm rd) (.slice Rc rq re)
  exact h9.cj
 clear hK K hHeld;have hHeld:=hHeld2;clear hHeld2;refine wpAnyH_done (by kernel_rfl) ?_ _;clear hHeld;obtain⟨W9,hW9⟩:∃ W,W=((v7.setCell ⟨r,0,none⟩ (.slice Re rn rc)).setCell ⟨r,1,none⟩ (.slice Rk rm rd)).setCell ⟨r,2,none⟩ (.slice Rc rq re):=⟨_,rfl⟩
 have HB9:Hid (Below w.heap.size w W9):=by
  unfold Hid;rw[hW9];exact ((HKc.out.below.setCell (p:=⟨r,0,none⟩) hwr _).setCell (p:=⟨r,1,none⟩) hwr _).setCell (p:=⟨r,2,none⟩) hwr _
 have HOW9:Hid (OwC W9 w.heap.size (joinT 5 cs ds t u,xs) Re rn rc Rk rm rd Rc rq re):=by
  unfold Hid;rw[hW9];exact (HOW.out.set3 hrB _ _ _).mono HWB.out
 have l0:W9.cell? ⟨r,0,none⟩=some (.slice Re rn rc):=by rw[hW9];go_simp
 have l1:W9.cell? ⟨r,1,none⟩=some (.slice Rk rm rd):=by rw[hW9];go_simp
 have l2:W9.cell? ⟨r,2,none⟩=some (.slice Rc rq re):=by rw[hW9];go_simp
 clear z0 z1 z2 m0 m1 m2;rw[← hW9];clear hW9;go_wp2_with fail;refine bodyPost_ret (v:=.agg #[.slice Re rn rc,.slice Rk rm rd,.slice Rc rq re]) (by simp[results,Tryz.results71,go_sem,l0,l1,l2]) rfl ⟨_,HXP.out,by have:=HXQ.out;have:=HOW9.out.len;omega,Re,rn,rc,Rk,rm,rd,Rc,rq,re,rfl,HOW9.out,HB9.out⟩
def JoinIs (a b:K) (na nb:Nat) (w:World) (e:Ending) (w':World):Prop:=∃ (x:K) (z:Int),((RK a∧RK b→z=0∧IsJ a b x∧x.2.length≤na+nb)∧(¬(RK a∧RK b)→z=1∧x=noneK))∧CausErr x z w e w'
theorem joinE_any (t u:T) (cs ds:List S3) (Ae Ak Ca Be Bk Cb:Option Addr) (ne nk ce ck na ca9 me mk de dk nb cb9:Nat) (w:World) (hn:nodes t≤1000) (hl:cs.length=na) (hna:na≤1000) (hr:RdT w w.heap.size t ⟨Ae,ne,ce⟩ ⟨Ak,nk,ck⟩) (hc:Rd w w.heap.size 3 Ca na ca9 (spsC cs)) (hn2:nodes u≤1000) (hl2:ds.length=nb) (hnb:nb≤1000) (hr2:RdT w w.heap.size u ⟨Be,me,de⟩ ⟨Bk,mk,dk⟩) (hc2:Rd w w.heap.size 3 Cb nb cb9 (spsC ds)) :
  Calls Tryz.prog 29 #[.agg #[.slice Ae ne ce,.slice Ak nk ck,.slice Ca na ca9],.agg #[.slice Be me de,.slice Bk mk dk,.slice Cb nb cb9]] w (JoinIs (t,cs) (u,ds) na nb w):=by
 have HA:=Lib.hid (And.intro hn (And.intro hl (And.intro hr hc)));clear hn hl hr hc;have HB:=Lib.hid (And.intro hn2 (And.intro hl2 (And.intro hr2 hc2)));clear hn2 hl2 hr2 hc2;obtain⟨W,p,q,r,HW,HP,HQ,HR,HKc,HKR,HFR⟩:=boxC3 w Ae Ak Ca Be Bk Cb ne nk ce ck na ca9 me mk de dk nb cb9
 have hwr:w.heap.size≤r:=by have:=HP.out;have:=HR.out;omega
 have hpr:p<r:=by have:=HR.out;omega
 have hqr:q<r:=by have:=HQ.out;have:=HR.out;omega
 obtain⟨c0,c1,c2,c3,c4,c5,-⟩:=HKc.out.cj;have HRA:=Lib.hid (rightK_any t cs Ae Ak Ca ne nk ce ck na ca9 W HA.out.1 HA.out.2.1 hna (RdT.more HKc.out.below.size _ (RdT.below HA.out.2.2.1 HKc.out.below)) ((HA.out.2.2.2.below HKc.out.below).more HKc.out.below.size));go_enter Tryz.func29,Tryz.ntmps29;go_wp2_with fail;rw[← HW.out,← HP.out,← HR.out]
 try rw[← HQ.out]
 cases ha:rightKB (t,cs)with
 | false=>
  rw[ha]at HRA
  have HNO:Hid (¬RK (t,cs)):=fun h=>by rw[rightKB_iff.2 h]at ha;cases ha
  clear ha;refine HRA.out.mono ?_;rintro e v1 ⟨rfl,hb9⟩;have HKc:=Lib.hid (HKc.out.later hb9);have HKR:=Lib.hid (HKR.out.later hb9);have HFR:=Lib.hid (HFR.out.later hb9);clear hb9 c0 c1 c2 c3 c4 c5;obtain⟨z0,z1,z2,-⟩:=HKR.out.cj;have m0:=HFR.out.2 0;have m1:=HFR.out.2 1;have m2:=HFR.out.2 2;obtain⟨W9,hW9⟩:∃ W,W=((v1.setCell ⟨r,0,none⟩ (.slice none 0 0)).setCell ⟨r,1,none⟩ (.slice none 0 0)).setCell ⟨r,2,none⟩ (.slice none 0 0):=⟨_,rfl⟩
  have HB9:Hid (Below w.heap.size w W9):=by
   unfold Hid;rw[hW9];exact ((HKc.out.below.setCell (p:=⟨r,0,none⟩) hwr _).setCell (p:=⟨r,1,none⟩) hwr _).setCell (p:=⟨r,2,none⟩) hwr _
  have HOW9:Hid (OwC W9 w.heap.size noneK none 0 0 none 0 0 none 0 0):=by
   unfold Hid;rw[hW9];exact OwC.no _ _
  have l0:W9.cell? ⟨r,0,none⟩=some (.slice none 0 0):=by rw[hW9];go_simp
  have l1:W9.cell? ⟨r,1,none⟩=some (.slice none 0 0):=by rw[hW9];go_simp
  have l2:W9.cell? ⟨r,2,none⟩=some (.slice none 0 0):=by rw[hW9];go_simp
  have HW9:=Lib.hid hW9;clear hW9;go_wp2_with fail;rw[← HW9.out];refine bodyPost_ret (v:=.tuple #[.agg #[.slice none 0 0,.slice none 0 0,.slice none 0 0],.int .i64 1]) (by simp[results,Tryz.results29,go_sem,l0,l1,l2]) rfl ⟨noneK,1,⟨fun h=>absurd h.1 HNO.out,fun _=>⟨rfl,rfl⟩⟩,none,0,0,none,0,0,none,0,0,rfl,HOW9.out,HB9.out⟩
 | true=>
  rw[ha]at HRA;have HYA:Hid (RK (t,cs)):=rightKB_iff.1 ha;clear ha;refine HRA.out.mono ?_;rintro e v1 ⟨rfl,hb9⟩;have HKc:=Lib.hid (HKc.out.later hb9);have HKR:=Lib.hid (HKR.out.later hb9);have HFR:=Lib.hid (HFR.out.later hb9);clear hb9 c0 c1 c2 c3 c4 c5;obtain⟨c0,c1,c2,c3,c4,c5,-⟩:=HKc.out.cj;have HRB:=Lib.hid (rightK_any u ds Be Bk Cb me mk de dk nb cb9 v1 HB.out.1 HB.out.2.1 hnb (RdT.more HKc.out.below.size _ (RdT.below HB.out.2.2.1 HKc.out.below)) ((HB.out.2.2.2.below HKc.out.below).more HKc.out.below.size));go_wp2_with fail
  cases hb:rightKB (u,ds)with
  | false=>
   rw[hb]at HRB
   have HNO:Hid (¬RK (u,ds)):=fun h=>by rw[rightKB_iff.2 h]at hb;cases hb
   clear hb;refine HRB.out.mono ?_;rintro e v2 ⟨rfl,hb9⟩;have HKc:=Lib.hid (HKc.out.later hb9);have HKR:=Lib.hid (HKR.out.later hb9);have HFR:=Lib.hid (HFR.out.later hb9);clear hb9 c0 c1 c2 c3 c4 c5;obtain⟨z0,z1,z2,-⟩:=HKR.out.cj;have m0:=HFR.out.2 0;have m1:=HFR.out.2 1;have m2:=HFR.out.2 2;obtain⟨W9,hW9⟩:∃ W,W=((v2.setCell ⟨r,0,none⟩ (.slice none 0 0)).setCell ⟨r,1,none⟩ (.slice none 0 0)).setCell ⟨r,2,none⟩ (.slice none 0 0):=⟨_,rfl⟩
   have HB9:Hid (Below w.heap.size w W9):=by
    unfold Hid;rw[hW9];exact ((HKc.out.below.setCell (p:=⟨r,0,none⟩) hwr _).setCell (p:=⟨r,1,none⟩) hwr _).setCell (p:=⟨r,2,none⟩) hwr _
   have HOW9:Hid (OwC W9 w.heap.size noneK none 0 0 none 0 0 none 0 0):=by
    unfold Hid;rw[hW9];exact OwC.no _ _
   have l0:W9.cell? ⟨r,0,none⟩=some (.slice none 0 0):=by rw[hW9];go_simp
   have l1:W9.cell? ⟨r,1,none⟩=some (.slice none 0 0):=by rw[hW9];go_simp
   have l2:W9.cell? ⟨r,2,none⟩=some (.slice none 0 0):=by rw[hW9];go_simp
   have HW9:=Lib.hid hW9;clear hW9;go_wp2_with fail;rw[← HW9.out];refine bodyPost_ret (v:=.tuple #[.agg #[.slice none 0 0,.slice none 0 0,.slice none 0 0],.int .i64 1]) (by simp[results,Tryz.results29,go_sem,l0,l1,l2]) rfl ⟨noneK,1,⟨fun h=>absurd h.2 HNO.out,fun _=>⟨rfl,rfl⟩⟩,none,0,0,none,0,0,none,0,0,rfl,HOW9.out,HB9.out⟩
  | true=>
   rw[hb]at HRB;have HYB:Hid (RK (u,ds)):=rightKB_iff.1 hb;clear hb;refine HRB.out.mono ?_;rintro e v2 ⟨rfl,hb9⟩;have HKc:=Lib.hid (HKc.out.later hb9);have HKR:=Lib.hid (HKR.out.later hb9);have HFR:=Lib.hid (HFR.out.later hb9);clear hb9 c0 c1 c2 c3 c4 c5;obtain⟨c0,c1,c2,c3,c4,c5,-⟩:=HKc.out.cj;have HJ:=Lib.hid (join0_any t u cs ds Ae Ak Ca Be Bk Cb ne nk ce ck na ca9 me mk de dk nb cb9 v2 HA.out.1 HA.out.2.1 hna (RdT.more HKc.out.below.size _ (RdT.below HA.out.2.2.1 HKc.out.below)) ((HA.out.2.2.2.below HKc.out.below).more HKc.out.below.size) HB.out.1 HB.out.2.1 hnb (RdT.more HKc.out.below.size _ (RdT.below HB.out.2.2.1 HKc.out.below)) ((HB.out.2.2.2.below HKc.out.below).more HKc.out.below.size) HYA.out.tree HYB.out.tree HYA.out.ctx HYB.out.ctx);go_wp2_with fail;refine HJ.out.mono ?_;rintro e v3 ⟨x,hx,hxl,Re,rn,rc,Rk,rm,rd,Rc,rq,re,rfl,how,hb9⟩
   obtain⟨B1,hB1⟩:∃ z,z=v2.heap.size:=⟨_,rfl⟩
   have hrB:r<B1:=by rw[hB1];exact HFR.out.1
   have HWB:Hid (w.heap.size≤B1):=by unfold Hid;rw[hB1];exact HKc.out.below.size
   rw[← hB1]at how;have HOW:=Lib.hid how;have HX:=Lib.hid (And.intro hx hxl);have HKc:=Lib.hid (HKc.out.later hb9);have HKR:=Lib.hid (HKR.out.later hb9);have HFR:=Lib.hid (HFR.out.later hb9);clear hb9 how hx hxl hB1 c0 c1 c2 c3 c4 c5;obtain⟨z0,z1,z2,-⟩:=HKR.out.cj;have m0:=HFR.out.2 0;have m1:=HFR.out.2 1;have m2:=HFR.out.2 2;obtain⟨W9,hW9⟩:∃ W,W=((v3.setCell ⟨r,0,none⟩ (.slice Re rn rc)).setCell ⟨r,1,none⟩ (.slice Rk rm rd)).setCell ⟨r,2,none⟩ (.slice Rc rq re):=⟨_,rfl⟩
   have HB9:Hid (Below w.heap.size w W9):=by
    unfold Hid;rw[hW9];exact ((HKc.out.below.setCell (p:=⟨r,0,none⟩) hwr _).setCell (p:=⟨r,1,none⟩) hwr _).setCell (p:=⟨r,2,none⟩) hwr _
   have HOW9:Hid (OwC W9 w.heap.size x Re rn rc Rk rm rd Rc rq re):=by
    unfold Hid;rw[hW9];exact (HOW.out.set3 hrB _ _ _).mono HWB.out
   have l0:W9.cell? ⟨r,0,none⟩=some (.slice Re rn rc):=by rw[hW9];go_simp
   have l1:W9.cell? ⟨r,1,none⟩=some (.slice Rk rm rd):=by rw[hW9];go_simp
   have l2:W9.cell? ⟨r,2,none⟩=some (.slice Rc rq re):=by rw[hW9];go_simp
   have HW9:=Lib.hid hW9;clear hW9;go_wp2_with fail;rw[← HW9.out];refine bodyPost_ret (v:=.tuple #[.agg #[.slice Re rn rc,.slice Rk rm rd,.slice Rc rq re],.int .i64 0]) (by simp[results,Tryz.results29,go_sem,l0,l1,l2]) rfl ⟨x,0,⟨fun _=>⟨rfl,HX.out⟩,fun h=>absurd ⟨HYA.out,HYB.out⟩ h⟩,Re,rn,rc,Rk,rm,rd,Rc,rq,re,rfl,HOW9.out,HB9.out⟩
end Cs
end Go.Proofs.YtgeafpaognhokaaGreat
