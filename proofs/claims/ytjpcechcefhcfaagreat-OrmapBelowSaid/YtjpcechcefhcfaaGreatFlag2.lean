/- Flags: the program's changes. -/
import Derived.Test.YtjpcechcefhcfaaGreatG120
import Derived.Test.YtjpcechcefhcfaaGreatCauJoin
set_option maxRecDepth 100000
set_option maxHeartbeats 4000000
namespace Go.Proofs.YtjpcechcefhcfaaGreat
open Go.ChangeShapes Go.WideShapes Go.ChangeAt Go.RowKit
namespace Cs
open Tr Cx Sp Rw Classical
theorem boxTDC (w:World) (Ae Ak:Option Addr) (ne nk ce ck:Nat) (a n:Int):∃ (W:World) (p q r:Nat),Hid (W=((w.alloc (.cells #[.slice Ae ne ce,.slice Ak nk ck] 25)).alloc (.cells #[.int .i64 a,.int .i64 n] 47)).alloc (.cells #[.slice none 0 0,.slice none 0 0,.slice none 0 0] 29))∧Hid (p=w.heap.size)∧Hid (q=p+1)∧Hid (r=p+1+1)∧Hid (Kept [(⟨p,0,none⟩,.slice Ae ne ce),(⟨p,1,none⟩,.slice Ak nk ck),(⟨q,0,none⟩,.int .i64 a),(⟨q,1,none⟩,.int .i64 n)] w W)∧Hid (Kept [(⟨r,0,none⟩,.slice none 0 0),(⟨r,1,none⟩,.slice none 0 0),(⟨r,2,none⟩,.slice none 0 0)] w W)∧Hid (Free r W):=by
 refine⟨_,_,_,_,rfl,rfl,rfl,rfl,?_,?_,⟨by simp,fun j=>by go_simp⟩⟩
 ·have h0:=Kept.nil_of (box3_below w #[.slice Ae ne ce,.slice Ak nk ck] #[.int .i64 a,.int .i64 n] #[.slice none 0 0,.slice none 0 0,.slice none 0 0] 25 47 29)
  refine (((h0.cons_of ?_).cons_of ?_).cons_of ?_).cons_of ?_ <;> go_simp
 ·have h0:=Kept.nil_of (box3_below w #[.slice Ae ne ce,.slice Ak nk ck] #[.int .i64 a,.int .i64 n] #[.slice none 0 0,.slice none 0 0,.slice none 0 0] 25 47 29)
  refine ((h0.cons_of ?_).cons_of ?_).cons_of ?_ <;> go_simp
def DeltaIs (lo:Nat) (ok:Bool) (er:Int) (x:T) (l:List (Int×Int)) (a n:Int) (N:Nat) (w:World) (e:Ending) (w':World):Prop:=∃ (k:K) (z:Int) (Ae:Option Addr) (ne ce:Nat) (Ak:Option Addr) (nk ck:Nat) (Ca:Option Addr) (na ca9:Nat),e = .returned (.tuple #[.agg #[.slice Ae ne ce,.slice Ak nk ck,.slice Ca na ca9],.int .i64 z])∧Hid (OwC w' lo k Ae ne ce Ak nk ck Ca na ca9)∧Hid ((ok=true→z=0∧k.1=x∧na≤N∧∃ u,OfC l u∧PutC uniF u (oneC a n) k.2)∧(ok=false→z=er∧k=noneK))∧Below w.heap.size w w'
theorem cells3 {w:World} {r:Nat} {a b c:Value} : (((w.setCell ⟨r,0,none⟩ a).setCell ⟨r,1,none⟩ b).setCell ⟨r,2,none⟩ c).heap.size=w.heap.size:=by simp[World.setCell]
theorem cells3_at {w:World} {r:Nat} {a b c:Value} (g:Nat) (h:g≠r):(((w.setCell ⟨r,0,none⟩ a).setCell ⟨r,1,none⟩ b).setCell ⟨r,2,none⟩ c).heap[g]?=w.heap[g]?:=
 ((Below.heap_setCell _ ⟨r,2,none⟩ _ g h).trans (Below.heap_setCell _ ⟨r,1,none⟩ _ g h)).trans (Below.heap_setCell _ ⟨r,0,none⟩ _ g h)
theorem delta_any (t:T) (Ae Ak:Option Addr) (ne nk ce ck:Nat) (a n:Int) (es:List E) (P:Option Addr) (pn pc:Nat) (lo:Nat) (w:World) (hl:LenT reachBytes t) (hn:nodes t≤1000) (hr:RdT w w.heap.size t ⟨Ae,ne,ce⟩ ⟨Ak,nk,ck⟩) (hlo:lo≤w.heap.size) (hp:es.length=pn) (hP:RO w (fun b=>lo≤b) 4 P pn pc (entsC es)) :
  Calls Tryz.prog 80 #[.agg #[.slice Ae ne ce,.slice Ak nk ck],.agg #[.int .i64 a,.int .i64 n],.slice P pn pc] w (DeltaIs lo (checkB t a n) 1 (.mk es []) (dl t) a n (4*nodes t+4) w):=by
 obtain⟨W,p,q,r,HW,HP,HQ,HR0,HKc,HKR,HFR⟩:=boxTDC w Ae Ak ne nk ce ck a n
 have hwr:w.heap.size≤r:=by have:=HP.out;have:=HR0.out;omega
 have HR:=Lib.hid (RdT.more HKc.out.below.size _ (RdT.below hr HKc.out.below));have HE:Hid (RO W (fun b=>lo≤b∧b<w.heap.size) 4 P pn pc (entsC es)):=(hP.mono fun b hb hlt=>And.intro hb hlt).keep HKc.out.below.size fun b _ hlt=>HKc.out.below.block b hlt;have HL:=Lib.hid (And.intro hl (And.intro hn hp));clear hr hl hn hp hP;obtain⟨c0,c1,c2,c3,-⟩:=HKc.out.cj;have HD:=Lib.hid (fdots_any t Ae Ak ne nk ce ck a n W HL.out.1 HL.out.2.1 HR.out);go_enter Tryz.func80,Tryz.ntmps80;go_wp2_with fail;rw[← HP.out,← HW.out]
 try rw[← HR0.out]
 try rw[← HQ.out]
 refine HD.out.mono ?_;rintro e v1 ⟨v,z,k,c,A,rfl,hv,hz,hb9⟩;have hrW:r<W.heap.size∧w.heap.size≤W.heap.size:=⟨HFR.out.1,HKc.out.below.size⟩;have HKc:=Lib.hid (HKc.out.later hb9);have HKR:=Lib.hid (HKR.out.later hb9);have HFR:=Lib.hid (HFR.out.later hb9);have HE:=Lib.hid (HE.out.keep hb9.size fun b _ hlt=>hb9.block b hlt);have HV:=Lib.hid hv.out;have HZ:=Lib.hid hz.out;have HRW:=Lib.hid hrW;clear hb9 c0 c1 c2 c3 hv hz hrW HD;obtain⟨z0,z1,z2,-⟩:=HKR.out.cj;have m0:=HFR.out.2 0;have m1:=HFR.out.2 1;have m2:=HFR.out.2 2
 cases ok:checkB t a n with
 | false=>
  have HCB:=Lib.hid ok;obtain⟨rfl,rfl⟩:=HZ.out.2 ok;obtain⟨W9,hW9⟩:∃ W,W=((v1.setCell ⟨r,0,none⟩ (.slice none 0 0)).setCell ⟨r,1,none⟩ (.slice none 0 0)).setCell ⟨r,2,none⟩ (.slice none 0 0):=⟨_,rfl⟩
  have HB9:Hid (Below w.heap.size w W9):=by
   unfold Hid;rw[hW9];exact ((HKc.out.below.setCell (p:=⟨r,0,none⟩) hwr _).setCell (p:=⟨r,1,none⟩) hwr _).setCell (p:=⟨r,2,none⟩) hwr _
  have l0:W9.cell? ⟨r,0,none⟩=some (.slice none 0 0):=by rw[hW9];go_simp
  have l1:W9.cell? ⟨r,1,none⟩=some (.slice none 0 0):=by rw[hW9];go_simp
  have l2:W9.cell? ⟨r,2,none⟩=some (.slice none 0 0):=by rw[hW9];go_simp
  have HW9:=Lib.hid hW9;clear hW9 ok;go_wp2_with fail;rw[← HW9.out];refine bodyPost_ret (v:=.tuple #[.agg #[.slice none 0 0,.slice none 0 0,.slice none 0 0],.int .i64 1]) (by simp[results,Tryz.results80,go_sem,l0,l1,l2]) rfl ⟨noneK,1,none,0,0,none,0,0,none,0,0,rfl,OwC.no _ _,Lib.hid (And.intro (fun h=>by rw[HCB.out]at h;cases h) (fun _=>⟨rfl,rfl⟩)),HB9.out⟩
 | true=>
  have HCB:=Lib.hid ok;obtain⟨rfl,hu⟩:=HZ.out.1 ok;have HU:=Lib.hid hu;obtain⟨W9,hW9⟩:∃ W,W=((v1.setCell ⟨r,0,none⟩ (.slice P pn pc)).setCell ⟨r,1,none⟩ (.slice none 0 0)).setCell ⟨r,2,none⟩ (.slice A k c):=⟨_,rfl⟩
  have HB9:Hid (Below w.heap.size w W9):=by
   unfold Hid;rw[hW9];exact ((HKc.out.below.setCell (p:=⟨r,0,none⟩) hwr _).setCell (p:=⟨r,1,none⟩) hwr _).setCell (p:=⟨r,2,none⟩) hwr _
  have HO9:Hid (OwC W9 lo (.mk es [],v) P pn pc none 0 0 A k c):=by
   unfold Hid;rw[hW9];refine⟨?_,HV.out.1,(HV.out.2.keep (by rw[cells3];exact Nat.le_refl _) fun b hb _=>cells3_at b (by have:=HRW.out.1;omega)).mono fun b hb _=>Nat.le_trans hlo (Nat.le_trans HRW.out.2 hb)⟩;rw[rdO_mk];exact⟨HL.out.2.2,(HE.out.keep (by rw[cells3];exact Nat.le_refl _) fun b hb _=>cells3_at b (by have:=hb.2;omega)).mono fun b hb _=>hb.1,rfl,[],RO.nil _ _ _ _ _,fun i hi=>by simp at hi⟩
  have l0:W9.cell? ⟨r,0,none⟩=some (.slice P pn pc):=by rw[hW9];go_simp
  have l1:W9.cell? ⟨r,1,none⟩=some (.slice none 0 0):=by rw[hW9];go_simp
  have l2:W9.cell? ⟨r,2,none⟩=some (.slice A k c):=by rw[hW9];go_simp
  have HW9:=Lib.hid hW9;clear hW9 ok hu;go_wp2_with fail;rw[← HW9.out];refine bodyPost_ret (v:=.tuple #[.agg #[.slice P pn pc,.slice none 0 0,.slice A k c],.int .i64 0]) (by simp[results,Tryz.results80,go_sem,l0,l1,l2]) rfl ⟨(.mk es [],v),0,P,pn,pc,none,0,0,A,k,c,rfl,HO9.out,Lib.hid (And.intro (fun _=>⟨rfl,rfl,by obtain⟨u,_,_,h⟩:=HU.out;exact h,by obtain⟨u,h1,h2,_⟩:=HU.out;exact⟨u,h1,h2⟩⟩) (fun h=>by rw[HCB.out]at h;cases h)),HB9.out⟩
theorem disable_any (t:T) (Ae Ak:Option Addr) (ne nk ce ck:Nat) (a n:Int) (w:World) (hl:LenT reachBytes t) (hn:nodes t≤1000) (hr:RdT w w.heap.size t ⟨Ae,ne,ce⟩ ⟨Ak,nk,ck⟩) :
  Calls Tryz.prog 48 #[.agg #[.slice Ae ne ce,.slice Ak nk ck],.agg #[.int .i64 a,.int .i64 n]] w (DeltaIs w.heap.size (checkB t a n) 1 none_ (dl t) a n (4*nodes t+4) w):=by
 obtain⟨W,p,q,r,HW,HP,HQ,HR0,HKc,HKR,HFR⟩:=boxTDC w Ae Ak ne nk ce ck a n
 have hwr:w.heap.size≤r:=by have:=HP.out;have:=HR0.out;omega
 have hrg:r<W.heap.size:=HFR.out.1;have HR:=Lib.hid (RdT.more HKc.out.below.size _ (RdT.below hr HKc.out.below));have HL:=Lib.hid (And.intro hl hn);have HD:=Lib.hid (delta_any t Ae Ak ne nk ce ck a n [] none 0 0 W.heap.size W HL.out.1 HL.out.2 HR.out (Nat.le_refl _) rfl (RO.nil _ _ _ _ _));have HRG:=Lib.hid (And.intro hrg HKc.out.below.size);clear hr hl hn hrg;obtain⟨c0,c1,c2,c3,-⟩:=HKc.out.cj;go_enter Tryz.func48,Tryz.ntmps48;go_wp2_with fail;rw[← HP.out,← HW.out]
 try rw[← HR0.out]
 try rw[← HQ.out]
 refine HD.out.mono ?_;rintro e v1 ⟨k,z,Re,rn,rc,Rk,rm,rd,Rc,rq,re,rfl,how,hz,hb9⟩;have HKc:=Lib.hid (HKc.out.later hb9);have HKR:=Lib.hid (HKR.out.later hb9);have HFR:=Lib.hid (HFR.out.later hb9);have HOW:=Lib.hid how.out;have HZ:=Lib.hid hz.out;clear hb9 c0 c1 c2 c3 how hz HD;obtain⟨z0,z1,z2,-⟩:=HKR.out.cj;have m0:=HFR.out.2 0;have m1:=HFR.out.2 1;have m2:=HFR.out.2 2;obtain⟨W9,hW9⟩:∃ W,W=((v1.setCell ⟨r,0,none⟩ (.slice Re rn rc)).setCell ⟨r,1,none⟩ (.slice Rk rm rd)).setCell ⟨r,2,none⟩ (.slice Rc rq re):=⟨_,rfl⟩
 have HB9:Hid (Below w.heap.size w W9):=by
  unfold Hid;rw[hW9];exact ((HKc.out.below.setCell (p:=⟨r,0,none⟩) hwr _).setCell (p:=⟨r,1,none⟩) hwr _).setCell (p:=⟨r,2,none⟩) hwr _
 have HO9:Hid (OwC W9 w.heap.size k Re rn rc Rk rm rd Rc rq re):=by
  unfold Hid;rw[hW9];exact (HOW.out.set3 HRG.out.1 _ _ _).mono HRG.out.2
 have l0:W9.cell? ⟨r,0,none⟩=some (.slice Re rn rc):=by rw[hW9];go_simp
 have l1:W9.cell? ⟨r,1,none⟩=some (.slice Rk rm rd):=by rw[hW9];go_simp
 have l2:W9.cell? ⟨r,2,none⟩=some (.slice Rc rq re):=by rw[hW9];go_simp
 have HW9:=Lib.hid hW9;clear hW9;go_wp2_with fail;rw[← HW9.out];refine bodyPost_ret (v:=.tuple #[.agg #[.slice Re rn rc,.slice Rk rm rd,.slice Rc rq re],.int .i64 z]) (by simp[results,Tryz.results48,go_sem,l0,l1,l2]) rfl ⟨k,z,Re,rn,rc,Rk,rm,rd,Rc,rq,re,rfl,HO9.out,HZ.out,HB9.out⟩
end Cs
end Go.Proofs.YtjpcechcefhcfaaGreat
