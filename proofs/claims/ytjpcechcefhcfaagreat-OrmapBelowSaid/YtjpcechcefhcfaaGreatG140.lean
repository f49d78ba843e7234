/- Texts of the lower layers, and of layer 9, put together. -/
import Derived.Test.YtjpcechcefhcfaaGreatG00
import Derived.Test.YtjpcechcefhcfaaGreatDltRef
import Derived.Test.YtjpcechcefhcfaaGreatG20
import Derived.Test.YtjpcechcefhcfaaGreatG120
import Derived.Test.YtjpcechcefhcfaaGreatCauKit
namespace Go.Proofs.YtjpcechcefhcfaaGreat
open Go.ChangeShapes Go.WideShapes Go.ChangeAt Go.RowKit
namespace Cs
open Tr Cx Sp Rw Classical
theorem RdP.one_len {w:World} {p:CP} {e:E} (h:RdP w p) (hk:p.k.1=oneT e):p.e.n=1:=by
 have h1:=h.tree;rw[hk]at h1;exact (rd_lens (Ae:=p.e.A) (ne:=p.e.n) (ce:=p.e.c) (Ak:=p.d.A) (nk:=p.d.n) (ck:=p.d.c) h1).1.symm
theorem flag_e {a n:Int} (h:Dt.rightB a n=true):RightE ⟨a,n,⟨#[]⟩,0⟩:=⟨h,by show ByteArray.size ⟨#[]⟩≤30;decide,by show (-1099511627776:Int)≤0;decide,by show (0:Int)≤1099511627776;decide⟩
end Cs
end Go.Proofs.YtjpcechcefhcfaaGreat
namespace Go.Proofs.YtjpcechcefhcfaaGreat
open Go.ChangeShapes Go.WideShapes Go.ChangeAt Go.RowKit
namespace Cs
open Tr Cx Sp Rw Classical
theorem boxDC (w:World) (a n:Int):∃ (W:World) (p r:Nat),Hid (W=(w.alloc (.cells #[.int .i64 a,.int .i64 n] 47)).alloc (.cells #[.slice none 0 0,.slice none 0 0,.slice none 0 0] 29))∧Hid (p=w.heap.size)∧Hid (r=p+1)∧Hid (Kept [(⟨p,0,none⟩,.int .i64 a),(⟨p,1,none⟩,.int .i64 n)] w W)∧Hid (Kept [(⟨r,0,none⟩,.slice none 0 0),(⟨r,1,none⟩,.slice none 0 0),(⟨r,2,none⟩,.slice none 0 0)] w W)∧Hid (Free r W):=by
 have hb:Below w.heap.size w ((w.alloc (.cells #[.int .i64 a,.int .i64 n] 47)).alloc (.cells #[.slice none 0 0,.slice none 0 0,.slice none 0 0] 29)):=((Below.refl _ _).alloc (Nat.le_refl _) _).alloc (by simp) _;refine⟨_,_,_,rfl,rfl,rfl,?_,?_,⟨by simp,fun j=>by go_simp⟩⟩
 ·have h0:=Kept.nil_of hb
  refine (h0.cons_of ?_).cons_of ?_ <;> go_simp
 ·have h0:=Kept.nil_of hb
  refine ((h0.cons_of ?_).cons_of ?_).cons_of ?_ <;> go_simp
set_option maxRecDepth 100000 in
set_option maxHeartbeats 4000000 in
theorem refgone_any (a n:Int) (u v:List S3) (B:Option Addr) (k d q:Nat) (w:World) (hul:u.length=k) (hk:k≤1000) (hru:Rd w w.heap.size 3 B k d (spsC u)) (hur:RightC u) (he:Dt.rightB a n=true) (hv:PutC uniF u (oneC a n) v) (hvl:v.length=q) (hq8:q≤800000) :
  Calls Tryz.prog 21 #[.agg #[.int .i64 a,.int .i64 n],.slice B k d] w (CausIs (none_,v) w):=by
 obtain⟨W,p,r,HW,HP,HR0,HKc,HKR,HFR⟩:=boxDC w a n
 have hwr:w.heap.size≤r:=by have:=HP.out;have:=HR0.out;omega
 have hpr:p<r:=by have:=HR0.out;omega
 have HRU:=Lib.hid ((hru.below HKc.out.below).more HKc.out.below.size);have HU:=Lib.hid (And.intro hul (And.intro hk hur));have HV:=Lib.hid (And.intro hv (And.intro hvl hq8));have HE:=Lib.hid he;clear hru hul hk hur hv hvl hq8 he;have c0:=HKc.out.c0;have c1:=HKc.out.c1;go_enter Tryz.func21,Tryz.ntmps21;go_wp2_with fail;rw[← HP.out,← HW.out]
 try rw[← HR0.out]
 refine (refone_any a n W).mono ?_;rintro e w4 ⟨h,rfl,ho,hb9⟩;have HO:Hid (Rd w4 w4.heap.size 3 (some ⟨h,0,none⟩) 1 1 (spsC (oneC a n))):=ho.out.rd;have HKc:=Lib.hid (HKc.out.later hb9);have HKR:=Lib.hid (HKR.out.later hb9);have HFR:=Lib.hid (HFR.out.later hb9);have HRU:=Lib.hid (HRU.out.later hb9);clear ho hb9 c0 c1;go_wp2_with fail;refine (refunionC_own u (oneC a n) v k 1 q B (some ⟨h,0,none⟩) d 1 w4 HU.out.1 rfl HV.out.2.1 HU.out.2.1 (by omega) HRU.out HO.out HU.out.2.2 (right_oneC HE.out) HV.out.1 HV.out.2.2).mono ?_;rintro e w5 ⟨Rc,re,rfl,ho,hb9⟩;have HRV:Hid (RO w5 (fun b=>r<b) 3 Rc q re (spsC v)):=(RO.of_own ho).mono fun b hb _=>Nat.lt_of_lt_of_le HFR.out.1 hb.1;have HKc:=Lib.hid (HKc.out.later hb9);have HKR:=Lib.hid (HKR.out.later hb9);have HFR:=Lib.hid (HFR.out.later hb9);clear ho hb9;obtain⟨z0,z1,z2,-⟩:=HKR.out.cj;have m0:=HFR.out.2 0
 have m1:=HFR.out.2 1;have m2:=HFR.out.2 2;obtain⟨W9,hW9⟩:∃ W,W=((w5.setCell ⟨r,0,none⟩ (.slice none 0 0)).setCell ⟨r,1,none⟩ (.slice none 0 0)).setCell ⟨r,2,none⟩ (.slice Rc q re):=⟨_,rfl⟩
 have HB9:Hid (Below w.heap.size w W9):=by
  unfold Hid;rw[hW9];exact ((HKc.out.below.setCell (p:=⟨r,0,none⟩) hwr _).setCell (p:=⟨r,1,none⟩) hwr _).setCell (p:=⟨r,2,none⟩) hwr _
 have HO9:Hid (OwC W9 w.heap.size (none_,v) none 0 0 none 0 0 Rc q re):=by
  unfold Hid;rw[hW9];exact⟨RdO.none _ _ _ _ _ _,HV.out.2.1,(HRV.out.keep (by rw[cells3];exact Nat.le_refl _) (fun b hb _=>cells3_at b (by omega))).mono fun b hb _=>Nat.le_trans hwr (Nat.le_of_lt hb)⟩
 have l0:W9.cell? ⟨r,0,none⟩=some (.slice none 0 0):=by rw[hW9];go_simp
 have l1:W9.cell? ⟨r,1,none⟩=some (.slice none 0 0):=by rw[hW9];go_simp
 have l2:W9.cell? ⟨r,2,none⟩=some (.slice Rc q re):=by rw[hW9];go_simp
 have HW9:=Lib.hid hW9;clear hW9;go_wp2_with fail;rw[← HW9.out];refine bodyPost_ret (v:=.agg #[.slice none 0 0,.slice none 0 0,.slice Rc q re]) (by simp[results,Tryz.results21,go_sem,l0,l1,l2]) rfl ⟨none,0,0,none,0,0,Rc,q,re,rfl,HO9.out,HB9.out⟩
end Cs
end Go.Proofs.YtjpcechcefhcfaaGreat
