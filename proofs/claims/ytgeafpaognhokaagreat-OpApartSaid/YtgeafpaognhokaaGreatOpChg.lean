/- Changes: what stands at a path, changed: the program's. -/
import Derived.Test.YtgeafpaognhokaaGreatG80
import Derived.Test.YtgeafpaognhokaaGreatG60
import Derived.Test.YtgeafpaognhokaaGreatG50
namespace Go.Proofs.YtgeafpaognhokaaGreat
open Go.ChangeShapes Go.WideShapes Go.ChangeAt Go.RowKit
namespace Cs
open Tr Cx Sp Rw Classical
theorem check_sub {t:T} {p:List ByteArray} {a n:Int} (h:checkB t a n=true):checkB (getT t p) a n=true:=by
 obtain⟨h1,h2,h3⟩:=check_iff.1 h;refine check_iff.2 ⟨getT_right h1 p,h2,fun h4=>h3 ?_⟩;obtain⟨q,e,he⟩:=(dl_iff (getT_right h1 p)).1 h4;rw[entAt_get]at he;exact (dl_iff h1).2 ⟨_,e,he⟩
theorem endP_last {o:OpM} (h:¬o.act=3):endP o=o.path∧(endP o).drop o.path.length=[]:=by
 unfold endP;rw[if_neg h];exact⟨rfl,List.drop_length⟩
theorem endP_add {o:OpM} (h:o.act=3):endP o=o.path++[o.s]∧(endP o).drop o.path.length=[o.s]:=by
 unfold endP;rw[if_pos h];exact⟨rfl,by rw[List.drop_left]⟩
theorem full_no {t:T} {o:OpM} (h:¬o.act=3) (h5:¬o.act=5):¬FullAt t o o.path.length:=by
 rintro⟨_,⟨k,hk,h1,_⟩ | ⟨h1,_⟩⟩
 ·rw[(endP_last h).1]at hk;omega
 ·exact h5 h1
theorem full_inc {t:T} {o:OpM} (h5:o.act=5):FullAt t o o.path.length↔24≤(getT t o.path).es.length:=by
 have h3:¬o.act=3:=by omega
 constructor
 ·rintro⟨_,⟨k,hk,h1,_⟩ | ⟨_,h1⟩⟩
  ·rw[(endP_last h3).1]at hk;omega
  ·rw[(endP_last h3).1]at h1;exact h1
 ·intro h
  exact⟨.inr (.inr (.inl h5)),.inr ⟨h5,by rw[(endP_last h3).1];exact h⟩⟩
theorem full_add {t:T} {o:OpM} (h3:o.act=3):FullAt t o o.path.length↔roomB (getT t o.path) o.s=false:=by
 unfold roomB;rw[Bool.or_eq_false_iff,decide_eq_false_iff_not,decide_eq_false_iff_not];have he:=(endP_add h3).1
 have hlen:(endP o).length=o.path.length+1:=by rw[he,List.length_append];rfl
 have htk:(endP o).take o.path.length=o.path:=by rw[he,List.take_left]
 have hgt:∀ h:o.path.length<(endP o).length,(endP o)[o.path.length]=o.s:=fun h=>by
  have h2:(endP o)[o.path.length]?=some o.s:=by rw[he,List.getElem?_append_right (Nat.le_refl _),Nat.sub_self];rfl
  rw[List.getElem?_eq_getElem h]at h2;injection h2
 constructor
 ·rintro⟨_,⟨k,hk,h1,h2,h4⟩ | ⟨h1,_⟩⟩
  ·obtain rfl:k=o.path.length:=by omega
   rw[htk]at h2 h4;rw[hgt hk]at h4;exact⟨by omega,h4⟩
  ·omega
 ·rintro⟨h1,h2⟩
  refine⟨.inr (.inl h3),.inl ⟨o.path.length,by omega,Nat.le_refl _,?_,?_⟩⟩
  ·rw[htk];omega
  ·rw[htk,hgt (by omega)];exact h2
theorem UpIs.yes_of {t:T} {o:OpM} {d:Int×Int} {j:Nat} {k:K} (hf:¬FullAt t o j) (ht:k.1=if brings o.act then wrapT (oneT (entOf ⟨d,o,[]⟩)) ((endP o).drop j)else none_) (hc:∃ u,OfC (seesL t o) u∧PutC uniF u (oneC d.1 d.2) k.2) (hl:k.2.length≤4*Tr.nodes t+4):UpIs t o d j k 0:=
 ⟨(if_neg hf).symm,fun _=>⟨⟨ht,hc⟩,hl⟩,fun h=>absurd rfl h⟩
theorem UpIs.no_of {t:T} {o:OpM} {d:Int×Int} {j:Nat} {k:K} (hf:FullAt t o j) (hk:k=noneK):UpIs t o d j k 4:=⟨(if_pos hf).symm,fun h=>absurd h (by decide),fun _=>hk⟩
def ChgIs (t:T) (o:OpM) (a n:Int) (w:World) (e:Ending) (w':World):Prop:=∃ (k:K) (z:Int) (Xe:Option Addr) (xe1 xe2:Nat) (Xk:Option Addr) (xk1 xk2:Nat) (Xc:Option Addr) (xc1 xc2:Nat),e = .returned (.tuple #[.agg #[.slice Xe xe1 xe2,.slice Xk xk1 xk2,.slice Xc xc1 xc2],.int .i64 z])∧Hid (OwC w' w.heap.size k Xe xe1 xe2 Xk xk1 xk2 Xc xc1 xc2)∧Hid (UpIs t o (a,n) o.path.length k z)∧Below w.heap.size w w'
set_option maxRecDepth 100000 in
set_option maxHeartbeats 4000000 in
theorem ochange_any (t:T) (xp:List ByteArray) (xa:Int) (xs:ByteArray) (xv:Int) (xA:Option Addr) (xn xc:Nat) (a n:Int) (Ge Gk:Option Addr) (gn gm gc gd:Nat) (w:World) (ht:RightT 5 t) (ho:OpOk ⟨xp,xa,xs,xv⟩) (hc:checkB t a n=true) (hn:nodes t≤240) (hr:RdT w w.heap.size (getT t xp) ⟨Ge,gn,gc⟩ ⟨Gk,gm,gd⟩) :
  Calls Tryz.prog 48 #[.agg #[.slice Ge gn gc,.slice Gk gm gd],.agg #[.slice xA xn xc,.int .i64 xa,.string xs,.int .i64 xv],.agg #[.int .i64 a,.int .i64 n]] w (ChgIs t ⟨xp,xa,xs,xv⟩ a n w):=by
 obtain⟨x,hx⟩:∃ x,x=getT t xp:=⟨_,rfl⟩;rw[← hx]at hr
 have hnx:nodes x≤nodes t:=by rw[hx];exact nodes_getT t xp
 have hcx:checkB x a n=true:=by rw[hx];exact check_sub hc
 have HX:=Lib.hid hx;have HT:=Lib.hid ht;have HOK:=Lib.hid ho;have HNX:=Lib.hid hnx;have HN2:=Lib.hid hn;have HCX:=Lib.hid hcx;have L:=Lib.hid (LenT.few (t:=x) (by omega))
 have N:Hid (nodes x≤1000):=by unfold Hid;omega
 obtain⟨W,p,q,s,r,HW,HP,HQ,HS0,HR0,HKc,HKR,HFR⟩:=boxTODC w Ge Gk gn gm gc gd xA xn xc xa xs xv a n
 have hwr:w.heap.size≤r:=by have:=HP.out;have:=HR0.out;omega
 have hpr:p<r:=by have:=HP.out;have:=HR0.out;omega
 have hqr:q<r:=by have:=HQ.out;have:=HR0.out;omega
 have hsr:s<r:=by have:=HS0.out;have:=HR0.out;omega
 have R:=Lib.hid (RdT.later hr HKc.out.below);clear hr hx hnx hcx hc ht ho hn
 have h17:xa=1∨xa=2∨xa=3∨xa=4∨xa=5∨xa=6∨xa=7:=by
  have h:actOk xa (lastK xp):=HOK.out.act;unfold actOk at h;omega
 rcases h17 with rfl | rfl | rfl | rfl | rfl | rfl | rfl
 ·have c0:=HKc.out.c0
  have c1:=HKc.out.c1;have c2:=HKc.out.c2;have c3:=HKc.out.c3;have c4:=HKc.out.c4;have c5:=HKc.out.c5;have c6:=HKc.out.c6;have c7:=HKc.out.c7;go_enter Tryz.func48,Tryz.ntmps48;go_wp2_with fail;rw[← HW.out,← HP.out]
  try rw[← HR0.out]
  try rw[← HS0.out]
  try rw[← HQ.out]
  refine (enable_any x Ge Gk gn gm gc gd a n W L.out N.out R.out).mono ?_;rintro e v1 ⟨kx,zx,Xe,xe1,xe2,Xk,xk1,xk2,Xc,xc1,xc2,rfl,how,hz,hb9⟩;have HOX:=Lib.hid how.out;have HZX:=Lib.hid hz.out;clear how hz;have HKc:=Lib.hid (HKc.out.later hb9);have R:=Lib.hid (RdT.later R.out hb9);have HKR:=Lib.hid (HKR.out.later hb9);have HFR:=Lib.hid (HFR.out.later hb9);clear hb9;clear c0 c1 c2 c3 c4 c5 c6 c7
  have hsee:seesL t ⟨xp,1,xs,xv⟩=dl (getT t xp):=by
   unfold seesL;rw[if_neg (by show ¬((1:Int)=3∨(1:Int)=4);decide),if_neg (by show ¬(1:Int)=5;decide),if_neg (by show ¬(1:Int)=6;decide)]
  have hgx:getT t xp=x:=HX.out.symm;obtain⟨rfl,hk,hna,u,hu,hpv⟩:=HZX.out.1 (HCX.out)
  have HU9:Hid (UpIs t ⟨xp,1,xs,xv⟩ (a,n) xp.length kx 0):=UpIs.yes_of (full_no (by show ¬(1:Int)=3;decide) (by show ¬(1:Int)=5;decide)) (by
    have hen:entOf ⟨(a,n),⟨xp,1,xs,xv⟩,[]⟩=⟨a,n,⟨#[]⟩,0⟩:=by unfold entOf;rw[if_neg (by show ¬(1:Int)=6;decide),show (⟨xp,1,xs,xv⟩:OpM).n=0 from HOK.out.zero (by show (1:Int)≠5;decide)]
    rw[hk,if_pos (by show brings 1;unfold brings;decide),hen,(endP_last (o:=⟨xp,1,xs,xv⟩) (by show ¬(1:Int)=3;decide)).2]
    first | done | rfl) ⟨u,by rw[hsee,hgx];exact hu,hpv⟩ (by have h1:=HOX.out.len;have h2:=HNX.out;(try dsimp only at h1);omega)
  clear hk hna hu hpv hsee hgx
  have HFRW:Hid (r<W.heap.size):=by unfold Hid;have h:=HW.out;have h1:=HR0.out;have h2:=HP.out;rw[h];simp;omega
  have HWW:Hid (w.heap.size≤W.heap.size):=by have h:=HFRW.out;unfold Hid;omega
  obtain⟨z0,z1,z2,-⟩:=HKR.out.cj;have m0:=HFR.out.2 0;have m1:=HFR.out.2 1;have m2:=HFR.out.2 2;obtain⟨W9,hW9⟩:∃ W,W=((v1.setCell ⟨r,0,none⟩ (.slice Xe xe1 xe2)).setCell ⟨r,1,none⟩ (.slice Xk xk1 xk2)).setCell ⟨r,2,none⟩ (.slice Xc xc1 xc2):=⟨_,rfl⟩
  have HB9:Hid (Below w.heap.size w W9):=by
   unfold Hid;rw[hW9];exact ((HKc.out.below.setCell (p:=⟨r,0,none⟩) hwr _).setCell (p:=⟨r,1,none⟩) hwr _).setCell (p:=⟨r,2,none⟩) hwr _
  have HO9:Hid (OwC W9 w.heap.size kx Xe xe1 xe2 Xk xk1 xk2 Xc xc1 xc2):=by
   unfold Hid;rw[hW9];exact (HOX.out.set3 HFRW.out _ _ _).mono HWW.out
  have l0:W9.cell? ⟨r,0,none⟩=some (.slice Xe xe1 xe2):=by rw[hW9];go_simp
  have l1:W9.cell? ⟨r,1,none⟩=some (.slice Xk xk1 xk2):=by rw[hW9];go_simp
  have l2:W9.cell? ⟨r,2,none⟩=some (.slice Xc xc1 xc2):=by rw[hW9];go_simp
  have HW9:=Lib.hid hW9;clear hW9;go_wp2_with fail;rw[← HW9.out];refine bodyPost_ret (v:=.tuple #[.agg #[.slice Xe xe1 xe2,.slice Xk xk1 xk2,.slice Xc xc1 xc2],.int .i64 0]) (by simp[results,Tryz.results48,go_sem,l0,l1,l2]) rfl ⟨kx,0,Xe,xe1,xe2,Xk,xk1,xk2,Xc,xc1,xc2,rfl,HO9.out,HU9.out,HB9.out⟩
 ·have c0:=HKc.out.c0
  have c1:=HKc.out.c1;have c2:=HKc.out.c2;have c3:=HKc.out.c3;have c4:=HKc.out.c4;have c5:=HKc.out.c5;have c6:=HKc.out.c6;have c7:=HKc.out.c7;go_enter Tryz.func48,Tryz.ntmps48;go_wp2_with fail;rw[← HW.out,← HP.out]
  try rw[← HR0.out]
  try rw[← HS0.out]
  try rw[← HQ.out]
  refine (disable_any x Ge Gk gn gm gc gd a n W L.out N.out R.out).mono ?_;rintro e v1 ⟨kx,zx,Xe,xe1,xe2,Xk,xk1,xk2,Xc,xc1,xc2,rfl,how,hz,hb9⟩;have HOX:=Lib.hid how.out;have HZX:=Lib.hid hz.out;clear how hz;have HKc:=Lib.hid (HKc.out.later hb9);have R:=Lib.hid (RdT.later R.out hb9);have HKR:=Lib.hid (HKR.out.later hb9);have HFR:=Lib.hid (HFR.out.later hb9);clear hb9;clear c0 c1 c2 c3 c4 c5 c6 c7
  have hsee:seesL t ⟨xp,2,xs,xv⟩=dl (getT t xp):=by
   unfold seesL;rw[if_neg (by show ¬((2:Int)=3∨(2:Int)=4);decide),if_neg (by show ¬(2:Int)=5;decide),if_neg (by show ¬(2:Int)=6;decide)]
  have hgx:getT t xp=x:=HX.out.symm;obtain⟨rfl,hk,hna,u,hu,hpv⟩:=HZX.out.1 (HCX.out);have HU9:Hid (UpIs t ⟨xp,2,xs,xv⟩ (a,n) xp.length kx 0):=UpIs.yes_of (full_no (by show ¬(2:Int)=3;decide) (by show ¬(2:Int)=5;decide)) (by rw[hk,if_neg (by show ¬brings 2;unfold brings;decide)]) ⟨u,by rw[hsee,hgx];exact hu,hpv⟩ (by have h1:=HOX.out.len;have h2:=HNX.out;(try dsimp only at h1);omega);clear hk hna hu hpv hsee hgx
  have HFRW:Hid (r<W.heap.size):=by unfold Hid;have h:=HW.out;have h1:=HR0.out;have h2:=HP.out;rw[h];simp;omega
  have HWW:Hid (w.heap.size≤W.heap.size):=by have h:=HFRW.out;unfold Hid;omega
  obtain⟨z0,z1,z2,-⟩:=HKR.out.cj;have m0:=HFR.out.2 0;have m1:=HFR.out.2 1;have m2:=HFR.out.2 2;obtain⟨W9,hW9⟩:∃ W,W=((v1.setCell ⟨r,0,none⟩ (.slice Xe xe1 xe2)).setCell ⟨r,1,none⟩ (.slice Xk xk1 xk2)).setCell ⟨r,2,none⟩ (.slice Xc xc1 xc2):=⟨_,rfl⟩
  have HB9:Hid (Below w.heap.size w W9):=by
   unfold Hid;rw[hW9];exact ((HKc.out.below.setCell (p:=⟨r,0,none⟩) hwr _).setCell (p:=⟨r,1,none⟩) hwr _).setCell (p:=⟨r,2,none⟩) hwr _
  have HO9:Hid (OwC W9 w.heap.size kx Xe xe1 xe2 Xk xk1 xk2 Xc xc1 xc2):=by
   unfold Hid;rw[hW9];exact (HOX.out.set3 HFRW.out _ _ _).mono HWW.out
  have l0:W9.cell? ⟨r,0,none⟩=some (.slice Xe xe1 xe2):=by rw[hW9];go_simp
  have l1:W9.cell? ⟨r,1,none⟩=some (.slice Xk xk1 xk2):=by rw[hW9];go_simp
  have l2:W9.cell? ⟨r,2,none⟩=some (.slice Xc xc1 xc2):=by rw[hW9];go_simp
  have HW9:=Lib.hid hW9;clear hW9;go_wp2_with fail;rw[← HW9.out];refine bodyPost_ret (v:=.tuple #[.agg #[.slice Xe xe1 xe2,.slice Xk xk1 xk2,.slice Xc xc1 xc2],.int .i64 0]) (by simp[results,Tryz.results48,go_sem,l0,l1,l2]) rfl ⟨kx,0,Xe,xe1,xe2,Xk,xk1,xk2,Xc,xc1,xc2,rfl,HO9.out,HU9.out,HB9.out⟩
 ·have c0:=HKc.out.c0
  have c1:=HKc.out.c1;have c2:=HKc.out.c2;have c3:=HKc.out.c3;have c4:=HKc.out.c4;have c5:=HKc.out.c5;have c6:=HKc.out.c6;have c7:=HKc.out.c7;go_enter Tryz.func48,Tryz.ntmps48;go_wp2_with fail;rw[← HW.out,← HP.out]
  try rw[← HR0.out]
  try rw[← HS0.out]
  try rw[← HQ.out]
  refine (sadd_any x Ge Gk gn gm gc gd xs a n W L.out N.out R.out).mono ?_;rintro e v1 ⟨kx,zx,Xe,xe1,xe2,Xk,xk1,xk2,Xc,xc1,xc2,rfl,how,hz,hb9⟩;have HOX:=Lib.hid how.out;have HZX:=Lib.hid hz.out;clear how hz;have HKc:=Lib.hid (HKc.out.later hb9);have R:=Lib.hid (RdT.later R.out hb9);have HKR:=Lib.hid (HKR.out.later hb9);have HFR:=Lib.hid (HFR.out.later hb9);clear hb9;clear c0 c1 c2 c3 c4 c5 c6 c7
  have hsee:seesL t ⟨xp,3,xs,xv⟩=dl (getT t (xp++[xs])):=by
   unfold seesL;rw[if_pos (.inl rfl)]
  have hgk:getT t (xp++[xs])=kidAt x.ks xs:=by rw[getT_append,← HX.out];rfl
  have hmay:mayB x xs a n=true:=may_iff.2 ⟨HCX.out,(HOK.out.key (.inl rfl))⟩;have hfa:=full_add (t:=t) (o:=⟨xp,3,xs,xv⟩) rfl;have hgx:getT t xp=x:=HX.out.symm;rw[show (getT t (⟨xp,3,xs,xv⟩:OpM).path)=x from hgx]at hfa;rw[hmay,Bool.true_and,if_pos rfl]at HZX
  cases hrm:roomB x xs with
  | true=>
   obtain⟨rfl,hk,hna,u,hu,hpv⟩:=HZX.out.1 hrm
   have HU9:Hid (UpIs t ⟨xp,3,xs,xv⟩ (a,n) xp.length kx 0):=UpIs.yes_of (fun h=>by have h2:roomB x xs=false:=hfa.1 h;rw[hrm]at h2;cases h2) (by
    have hen:entOf ⟨(a,n),⟨xp,3,xs,xv⟩,[]⟩=⟨a,n,⟨#[]⟩,0⟩:=by unfold entOf;rw[if_neg (by show ¬(3:Int)=6;decide),show (⟨xp,3,xs,xv⟩:OpM).n=0 from HOK.out.zero (by show (3:Int)≠5;decide)]
    rw[hk,if_pos (by show brings 3;unfold brings;decide),hen,(endP_add (o:=⟨xp,3,xs,xv⟩) rfl).2]
    first | done | rfl) ⟨u,by rw[hsee,hgk];exact hu,hpv⟩ (by have h1:=HOX.out.len;have h2:=HNX.out;(try dsimp only at h1);omega)
   clear hk hna hu hpv hsee hgk hmay hfa hgx hrm
   have HFRW:Hid (r<W.heap.size):=by unfold Hid;have h:=HW.out;have h1:=HR0.out;have h2:=HP.out;rw[h];simp;omega
   have HWW:Hid (w.heap.size≤W.heap.size):=by have h:=HFRW.out;unfold Hid;omega
   obtain⟨z0,z1,z2,-⟩:=HKR.out.cj;have m0:=HFR.out.2 0;have m1:=HFR.out.2 1;have m2:=HFR.out.2 2;obtain⟨W9,hW9⟩:∃ W,W=((v1.setCell ⟨r,0,none⟩ (.slice Xe xe1 xe2)).setCell ⟨r,1,none⟩ (.slice Xk xk1 xk2)).setCell ⟨r,2,none⟩ (.slice Xc xc1 xc2):=⟨_,rfl⟩
   have HB9:Hid (Below w.heap.size w W9):=by
    unfold Hid;rw[hW9];exact ((HKc.out.below.setCell (p:=⟨r,0,none⟩) hwr _).setCell (p:=⟨r,1,none⟩) hwr _).setCell (p:=⟨r,2,none⟩) hwr _
   have HO9:Hid (OwC W9 w.heap.size kx Xe xe1 xe2 Xk xk1 xk2 Xc xc1 xc2):=by
    unfold Hid;rw[hW9];exact (HOX.out.set3 HFRW.out _ _ _).mono HWW.out
   have l0:W9.cell? ⟨r,0,none⟩=some (.slice Xe xe1 xe2):=by rw[hW9];go_simp
   have l1:W9.cell? ⟨r,1,none⟩=some (.slice Xk xk1 xk2):=by rw[hW9];go_simp
   have l2:W9.cell? ⟨r,2,none⟩=some (.slice Xc xc1 xc2):=by rw[hW9];go_simp
   have HW9:=Lib.hid hW9;clear hW9;go_wp2_with fail;rw[← HW9.out];refine bodyPost_ret (v:=.tuple #[.agg #[.slice Xe xe1 xe2,.slice Xk xk1 xk2,.slice Xc xc1 xc2],.int .i64 0]) (by simp[results,Tryz.results48,go_sem,l0,l1,l2]) rfl ⟨kx,0,Xe,xe1,xe2,Xk,xk1,xk2,Xc,xc1,xc2,rfl,HO9.out,HU9.out,HB9.out⟩
  | false=>
   obtain⟨rfl,hk⟩:=HZX.out.2 hrm;have HU9:Hid (UpIs t ⟨xp,3,xs,xv⟩ (a,n) xp.length kx 4):=UpIs.no_of (hfa.2 hrm) hk;clear hk hsee hgk hmay hfa hgx hrm
   have HFRW:Hid (r<W.heap.size):=by unfold Hid;have h:=HW.out;have h1:=HR0.out;have h2:=HP.out;rw[h];simp;omega
   have HWW:Hid (w.heap.size≤W.heap.size):=by have h:=HFRW.out;unfold Hid;omega
   obtain⟨z0,z1,z2,-⟩:=HKR.out.cj;have m0:=HFR.out.2 0;have m1:=HFR.out.2 1;have m2:=HFR.out.2 2;obtain⟨W9,hW9⟩:∃ W,W=((v1.setCell ⟨r,0,none⟩ (.slice Xe xe1 xe2)).setCell ⟨r,1,none⟩ (.slice Xk xk1 xk2)).setCell ⟨r,2,none⟩ (.slice Xc xc1 xc2):=⟨_,rfl⟩
   have HB9:Hid (Below w.heap.size w W9):=by
    unfold Hid;rw[hW9];exact ((HKc.out.below.setCell (p:=⟨r,0,none⟩) hwr _).setCell (p:=⟨r,1,none⟩) hwr _).setCell (p:=⟨r,2,none⟩) hwr _
   have HO9:Hid (OwC W9 w.heap.size kx Xe xe1 xe2 Xk xk1 xk2 Xc xc1 xc2):=by
    unfold Hid;rw[hW9];exact (HOX.out.set3 HFRW.out _ _ _).mono HWW.out
   have l0:W9.cell? ⟨r,0,none⟩=some (.slice Xe xe1 xe2):=by rw[hW9];go_simp
   have l1:W9.cell? ⟨r,1,none⟩=some (.slice Xk xk1 xk2):=by rw[hW9];go_simp
   have l2:W9.cell? ⟨r,2,none⟩=some (.slice Xc xc1 xc2):=by rw[hW9];go_simp
   have HW9:=Lib.hid hW9;clear hW9;go_wp2_with fail;rw[← HW9.out];refine bodyPost_ret (v:=.tuple #[.agg #[.slice Xe xe1 xe2,.slice Xk xk1 xk2,.slice Xc xc1 xc2],.int .i64 4]) (by simp[results,Tryz.results48,go_sem,l0,l1,l2]) rfl ⟨kx,4,Xe,xe1,xe2,Xk,xk1,xk2,Xc,xc1,xc2,rfl,HO9.out,HU9.out,HB9.out⟩
 ·have c0:=HKc.out.c0
  have c1:=HKc.out.c1;have c2:=HKc.out.c2;have c3:=HKc.out.c3;have c4:=HKc.out.c4;have c5:=HKc.out.c5;have c6:=HKc.out.c6;have c7:=HKc.out.c7;go_enter Tryz.func48,Tryz.ntmps48;go_wp2_with fail;rw[← HW.out,← HP.out]
  try rw[← HR0.out]
  try rw[← HS0.out]
  try rw[← HQ.out]
  refine (sdel_any x Ge Gk gn gm gc gd xs a n W L.out N.out R.out).mono ?_;rintro e v1 ⟨kx,zx,Xe,xe1,xe2,Xk,xk1,xk2,Xc,xc1,xc2,rfl,how,hz,hb9⟩;have HOX:=Lib.hid how.out;have HZX:=Lib.hid hz.out;clear how hz;have HKc:=Lib.hid (HKc.out.later hb9);have R:=Lib.hid (RdT.later R.out hb9);have HKR:=Lib.hid (HKR.out.later hb9);have HFR:=Lib.hid (HFR.out.later hb9);clear hb9;clear c0 c1 c2 c3 c4 c5 c6 c7
  have hsee:seesL t ⟨xp,4,xs,xv⟩=dl (getT t (xp++[xs])):=by
   unfold seesL;rw[if_pos (.inr rfl)]
  have hgk:getT t (xp++[xs])=kidAt x.ks xs:=by rw[getT_append,← HX.out];rfl
  obtain⟨rfl,hk,hna,u,hu,hpv⟩:=HZX.out.1 (may_iff.2 ⟨HCX.out,(HOK.out.key (.inr rfl))⟩);have HU9:Hid (UpIs t ⟨xp,4,xs,xv⟩ (a,n) xp.length kx 0):=UpIs.yes_of (full_no (by show ¬(4:Int)=3;decide) (by show ¬(4:Int)=5;decide)) (by rw[hk,if_neg (by show ¬brings 4;unfold brings;decide)]) ⟨u,by rw[hsee,hgk];exact hu,hpv⟩ (by have h1:=HOX.out.len;have h2:=HNX.out;(try dsimp only at h1);omega);clear hk hna hu hpv hsee hgk
  have HFRW:Hid (r<W.heap.size):=by unfold Hid;have h:=HW.out;have h1:=HR0.out;have h2:=HP.out;rw[h];simp;omega
  have HWW:Hid (w.heap.size≤W.heap.size):=by have h:=HFRW.out;unfold Hid;omega
  obtain⟨z0,z1,z2,-⟩:=HKR.out.cj;have m0:=HFR.out.2 0;have m1:=HFR.out.2 1;have m2:=HFR.out.2 2;obtain⟨W9,hW9⟩:∃ W,W=((v1.setCell ⟨r,0,none⟩ (.slice Xe xe1 xe2)).setCell ⟨r,1,none⟩ (.slice Xk xk1 xk2)).setCell ⟨r,2,none⟩ (.slice Xc xc1 xc2):=⟨_,rfl⟩
  have HB9:Hid (Below w.heap.size w W9):=by
   unfold Hid;rw[hW9];exact ((HKc.out.below.setCell (p:=⟨r,0,none⟩) hwr _).setCell (p:=⟨r,1,none⟩) hwr _).setCell (p:=⟨r,2,none⟩) hwr _
  have HO9:Hid (OwC W9 w.heap.size kx Xe xe1 xe2 Xk xk1 xk2 Xc xc1 xc2):=by
   unfold Hid;rw[hW9];exact (HOX.out.set3 HFRW.out _ _ _).mono HWW.out
  have l0:W9.cell? ⟨r,0,none⟩=some (.slice Xe xe1 xe2):=by rw[hW9];go_simp
  have l1:W9.cell? ⟨r,1,none⟩=some (.slice Xk xk1 xk2):=by rw[hW9];go_simp
  have l2:W9.cell? ⟨r,2,none⟩=some (.slice Xc xc1 xc2):=by rw[hW9];go_simp
  have HW9:=Lib.hid hW9;clear hW9;go_wp2_with fail;rw[← HW9.out];refine bodyPost_ret (v:=.tuple #[.agg #[.slice Xe xe1 xe2,.slice Xk xk1 xk2,.slice Xc xc1 xc2],.int .i64 0]) (by simp[results,Tryz.results48,go_sem,l0,l1,l2]) rfl ⟨kx,0,Xe,xe1,xe2,Xk,xk1,xk2,Xc,xc1,xc2,rfl,HO9.out,HU9.out,HB9.out⟩
 ·have c0:=HKc.out.c0
  have c1:=HKc.out.c1;have c2:=HKc.out.c2;have c3:=HKc.out.c3;have c4:=HKc.out.c4;have c5:=HKc.out.c5;have c6:=HKc.out.c6;have c7:=HKc.out.c7;go_enter Tryz.func48,Tryz.ntmps48;go_wp2_with fail;rw[← HW.out,← HP.out]
  try rw[← HR0.out]
  try rw[← HS0.out]
  try rw[← HQ.out]
  refine (inc_any x Ge Gk gn gm gc gd xv a n W L.out N.out R.out).mono ?_;rintro e v1 ⟨kx,zx,Xe,xe1,xe2,Xk,xk1,xk2,Xc,xc1,xc2,rfl,how,hz,hb9⟩;have HOX:=Lib.hid how.out;have HZX:=Lib.hid hz.out;clear how hz;have HKc:=Lib.hid (HKc.out.later hb9);have R:=Lib.hid (RdT.later R.out hb9);have HKR:=Lib.hid (HKR.out.later hb9);have HFR:=Lib.hid (HFR.out.later hb9);clear hb9;clear c0 c1 c2 c3 c4 c5 c6 c7
  have hsee:seesL t ⟨xp,5,xs,xv⟩=[]:=by
   unfold seesL;rw[if_neg (by show ¬((5:Int)=3∨(5:Int)=4);decide),if_pos rfl]
  have hfi:=full_inc (t:=t) (o:=⟨xp,5,xs,xv⟩) rfl;have hgx:getT t xp=x:=HX.out.symm;rw[show (getT t (⟨xp,5,xs,xv⟩:OpM).path)=x from hgx]at hfi
  by_cases h24:x.es.length<24
  ·obtain⟨rfl,hk9,hna⟩:=HZX.out.1 (inc_yes HCX.out (HOK.out.num rfl) h24)
   have hk:kx.1=oneT ⟨a,n,⟨#[]⟩,xv⟩:=by rw[hk9];rfl
   have HU9:Hid (UpIs t ⟨xp,5,xs,xv⟩ (a,n) xp.length kx 0):=UpIs.yes_of (fun h=>by have h2:24≤x.es.length:=hfi.1 h;omega) (by
    have hen:entOf ⟨(a,n),⟨xp,5,xs,xv⟩,[]⟩=⟨a,n,⟨#[]⟩,xv⟩:=by unfold entOf;rw[if_neg (by show ¬(5:Int)=6;decide)]
    rw[hk,if_pos (by show brings 5;unfold brings;decide),hen,(endP_last (o:=⟨xp,5,xs,xv⟩) (by show ¬(5:Int)=3;decide)).2]
    first | done | rfl) ⟨[],by rw[hsee];exact of_nil,by rw[hk9];exact put_one (check_iff.1 HCX.out).2.1⟩ (by have h1:=HOX.out.len;(try dsimp only at h1);omega)
   clear hk hk9 hna hsee hgx hfi h24
   have HFRW:Hid (r<W.heap.size):=by unfold Hid;have h:=HW.out;have h1:=HR0.out;have h2:=HP.out;rw[h];simp;omega
   have HWW:Hid (w.heap.size≤W.heap.size):=by have h:=HFRW.out;unfold Hid;omega
   obtain⟨z0,z1,z2,-⟩:=HKR.out.cj;have m0:=HFR.out.2 0;have m1:=HFR.out.2 1;have m2:=HFR.out.2 2;obtain⟨W9,hW9⟩:∃ W,W=((v1.setCell ⟨r,0,none⟩ (.slice Xe xe1 xe2)).setCell ⟨r,1,none⟩ (.slice Xk xk1 xk2)).setCell ⟨r,2,none⟩ (.slice Xc xc1 xc2):=⟨_,rfl⟩
   have HB9:Hid (Below w.heap.size w W9):=by
    unfold Hid;rw[hW9];exact ((HKc.out.below.setCell (p:=⟨r,0,none⟩) hwr _).setCell (p:=⟨r,1,none⟩) hwr _).setCell (p:=⟨r,2,none⟩) hwr _
   have HO9:Hid (OwC W9 w.heap.size kx Xe xe1 xe2 Xk xk1 xk2 Xc xc1 xc2):=by
    unfold Hid;rw[hW9];exact (HOX.out.set3 HFRW.out _ _ _).mono HWW.out
   have l0:W9.cell? ⟨r,0,none⟩=some (.slice Xe xe1 xe2):=by rw[hW9];go_simp
   have l1:W9.cell? ⟨r,1,none⟩=some (.slice Xk xk1 xk2):=by rw[hW9];go_simp
   have l2:W9.cell? ⟨r,2,none⟩=some (.slice Xc xc1 xc2):=by rw[hW9];go_simp
   have HW9:=Lib.hid hW9;clear hW9;go_wp2_with fail;rw[← HW9.out];refine bodyPost_ret (v:=.tuple #[.agg #[.slice Xe xe1 xe2,.slice Xk xk1 xk2,.slice Xc xc1 xc2],.int .i64 0]) (by simp[results,Tryz.results48,go_sem,l0,l1,l2]) rfl ⟨kx,0,Xe,xe1,xe2,Xk,xk1,xk2,Xc,xc1,xc2,rfl,HO9.out,HU9.out,HB9.out⟩
  ·obtain⟨hz4,hk⟩:=HZX.out.2 (inc_no3 h24)
   obtain rfl:zx=4:=hz4.trans (inc_e4 HCX.out (HOK.out.num rfl));have HU9:Hid (UpIs t ⟨xp,5,xs,xv⟩ (a,n) xp.length kx 4):=UpIs.no_of (hfi.2 (by omega)) hk;clear hk hz4 hsee hgx hfi h24
   have HFRW:Hid (r<W.heap.size):=by unfold Hid;have h:=HW.out;have h1:=HR0.out;have h2:=HP.out;rw[h];simp;omega
   have HWW:Hid (w.heap.size≤W.heap.size):=by have h:=HFRW.out;unfold Hid;omega
   obtain⟨z0,z1,z2,-⟩:=HKR.out.cj;have m0:=HFR.out.2 0;have m1:=HFR.out.2 1;have m2:=HFR.out.2 2;obtain⟨W9,hW9⟩:∃ W,W=((v1.setCell ⟨r,0,none⟩ (.slice Xe xe1 xe2)).setCell ⟨r,1,none⟩ (.slice Xk xk1 xk2)).setCell ⟨r,2,none⟩ (.slice Xc xc1 xc2):=⟨_,rfl⟩
   have HB9:Hid (Below w.heap.size w W9):=by
    unfold Hid;rw[hW9];exact ((HKc.out.below.setCell (p:=⟨r,0,none⟩) hwr _).setCell (p:=⟨r,1,none⟩) hwr _).setCell (p:=⟨r,2,none⟩) hwr _
   have HO9:Hid (OwC W9 w.heap.size kx Xe xe1 xe2 Xk xk1 xk2 Xc xc1 xc2):=by
    unfold Hid;rw[hW9];exact (HOX.out.set3 HFRW.out _ _ _).mono HWW.out
   have l0:W9.cell? ⟨r,0,none⟩=some (.slice Xe xe1 xe2):=by rw[hW9];go_simp
   have l1:W9.cell? ⟨r,1,none⟩=some (.slice Xk xk1 xk2):=by rw[hW9];go_simp
   have l2:W9.cell? ⟨r,2,none⟩=some (.slice Xc xc1 xc2):=by rw[hW9];go_simp
   have HW9:=Lib.hid hW9;clear hW9;go_wp2_with fail;rw[← HW9.out];refine bodyPost_ret (v:=.tuple #[.agg #[.slice Xe xe1 xe2,.slice Xk xk1 xk2,.slice Xc xc1 xc2],.int .i64 4]) (by simp[results,Tryz.results48,go_sem,l0,l1,l2]) rfl ⟨kx,4,Xe,xe1,xe2,Xk,xk1,xk2,Xc,xc1,xc2,rfl,HO9.out,HU9.out,HB9.out⟩
 ·have c0:=HKc.out.c0
  have c1:=HKc.out.c1;have c2:=HKc.out.c2;have c3:=HKc.out.c3;have c4:=HKc.out.c4;have c5:=HKc.out.c5;have c6:=HKc.out.c6;have c7:=HKc.out.c7;go_enter Tryz.func48,Tryz.ntmps48;go_wp2_with fail;rw[← HW.out,← HP.out]
  try rw[← HR0.out]
  try rw[← HS0.out]
  try rw[← HQ.out]
  refine (rwrite_any x Ge Gk gn gm gc gd xs a n W L.out N.out R.out).mono ?_;rintro e v1 ⟨kx,zx,Xe,xe1,xe2,Xk,xk1,xk2,Xc,xc1,xc2,rfl,how,hz,hb9⟩;have HOX:=Lib.hid how.out;have HZX:=Lib.hid hz.out;clear how hz;have HKc:=Lib.hid (HKc.out.later hb9);have R:=Lib.hid (RdT.later R.out hb9);have HKR:=Lib.hid (HKR.out.later hb9);have HFR:=Lib.hid (HFR.out.later hb9);clear hb9;clear c0 c1 c2 c3 c4 c5 c6 c7
  have hsee:seesL t ⟨xp,6,xs,xv⟩=ownD (getT t xp):=by
   unfold seesL;rw[if_neg (by show ¬((6:Int)=3∨(6:Int)=4);decide),if_neg (by show ¬(6:Int)=5;decide),if_pos rfl]
  have hgx:getT t xp=x:=HX.out.symm;obtain⟨rfl,hk,hna,u,hu,hpv⟩:=HZX.out.1 (wB_iff.2 ⟨HCX.out,HOK.out.text rfl⟩)
  have HU9:Hid (UpIs t ⟨xp,6,xs,xv⟩ (a,n) xp.length kx 0):=UpIs.yes_of (full_no (by show ¬(6:Int)=3;decide) (by show ¬(6:Int)=5;decide)) (by
    have hen:entOf ⟨(a,n),⟨xp,6,xs,xv⟩,[]⟩=⟨a,n,xs,0⟩:=by unfold entOf;rw[if_pos rfl,show (⟨xp,6,xs,xv⟩:OpM).n=0 from HOK.out.zero (by show (6:Int)≠5;decide)]
    rw[hk,if_pos (by show brings 6;unfold brings;decide),hen,(endP_last (o:=⟨xp,6,xs,xv⟩) (by show ¬(6:Int)=3;decide)).2]
    first | done | rfl) ⟨u,by rw[hsee,hgx];exact hu,hpv⟩ (by have h1:=HOX.out.len;have h2:=HNX.out;(try dsimp only at h1);omega)
  clear hk hna hu hpv hsee hgx
  have HFRW:Hid (r<W.heap.size):=by unfold Hid;have h:=HW.out;have h1:=HR0.out;have h2:=HP.out;rw[h];simp;omega
  have HWW:Hid (w.heap.size≤W.heap.size):=by have h:=HFRW.out;unfold Hid;omega
  obtain⟨z0,z1,z2,-⟩:=HKR.out.cj;have m0:=HFR.out.2 0;have m1:=HFR.out.2 1;have m2:=HFR.out.2 2;obtain⟨W9,hW9⟩:∃ W,W=((v1.setCell ⟨r,0,none⟩ (.slice Xe xe1 xe2)).setCell ⟨r,1,none⟩ (.slice Xk xk1 xk2)).setCell ⟨r,2,none⟩ (.slice Xc xc1 xc2):=⟨_,rfl⟩
  have HB9:Hid (Below w.heap.size w W9):=by
   unfold Hid;rw[hW9];exact ((HKc.out.below.setCell (p:=⟨r,0,none⟩) hwr _).setCell (p:=⟨r,1,none⟩) hwr _).setCell (p:=⟨r,2,none⟩) hwr _
  have HO9:Hid (OwC W9 w.heap.size kx Xe xe1 xe2 Xk xk1 xk2 Xc xc1 xc2):=by
   unfold Hid;rw[hW9];exact (HOX.out.set3 HFRW.out _ _ _).mono HWW.out
  have l0:W9.cell? ⟨r,0,none⟩=some (.slice Xe xe1 xe2):=by rw[hW9];go_simp
  have l1:W9.cell? ⟨r,1,none⟩=some (.slice Xk xk1 xk2):=by rw[hW9];go_simp
  have l2:W9.cell? ⟨r,2,none⟩=some (.slice Xc xc1 xc2):=by rw[hW9];go_simp
  have HW9:=Lib.hid hW9;clear hW9;go_wp2_with fail;rw[← HW9.out];refine bodyPost_ret (v:=.tuple #[.agg #[.slice Xe xe1 xe2,.slice Xk xk1 xk2,.slice Xc xc1 xc2],.int .i64 0]) (by simp[results,Tryz.results48,go_sem,l0,l1,l2]) rfl ⟨kx,0,Xe,xe1,xe2,Xk,xk1,xk2,Xc,xc1,xc2,rfl,HO9.out,HU9.out,HB9.out⟩
 ·have c0:=HKc.out.c0
  have c1:=HKc.out.c1;have c2:=HKc.out.c2;have c3:=HKc.out.c3;have c4:=HKc.out.c4;have c5:=HKc.out.c5;have c6:=HKc.out.c6;have c7:=HKc.out.c7;go_enter Tryz.func48,Tryz.ntmps48;go_wp2_with fail;rw[← HW.out,← HP.out]
  try rw[← HR0.out]
  try rw[← HS0.out]
  try rw[← HQ.out]
  refine (mreset_any x Ge Gk gn gm gc gd a n W L.out N.out R.out).mono ?_;rintro e v1 ⟨kx,zx,Xe,xe1,xe2,Xk,xk1,xk2,Xc,xc1,xc2,rfl,how,hz,hb9⟩;have HOX:=Lib.hid how.out;have HZX:=Lib.hid hz.out;clear how hz;have HKc:=Lib.hid (HKc.out.later hb9);have R:=Lib.hid (RdT.later R.out hb9);have HKR:=Lib.hid (HKR.out.later hb9);have HFR:=Lib.hid (HFR.out.later hb9);clear hb9;clear c0 c1 c2 c3 c4 c5 c6 c7
  have hsee:seesL t ⟨xp,7,xs,xv⟩=dl (getT t xp):=by
   unfold seesL;rw[if_neg (by show ¬((7:Int)=3∨(7:Int)=4);decide),if_neg (by show ¬(7:Int)=5;decide),if_neg (by show ¬(7:Int)=6;decide)]
  have hgx:getT t xp=x:=HX.out.symm;obtain⟨rfl,hk,hna,u,hu,hpv⟩:=HZX.out.1 (HCX.out);have HU9:Hid (UpIs t ⟨xp,7,xs,xv⟩ (a,n) xp.length kx 0):=UpIs.yes_of (full_no (by show ¬(7:Int)=3;decide) (by show ¬(7:Int)=5;decide)) (by rw[hk,if_neg (by show ¬brings 7;unfold brings;decide)]) ⟨u,by rw[hsee,hgx];exact hu,hpv⟩ (by have h1:=HOX.out.len;have h2:=HNX.out;(try dsimp only at h1);omega);clear hk hna hu hpv hsee hgx
  have HFRW:Hid (r<W.heap.size):=by unfold Hid;have h:=HW.out;have h1:=HR0.out;have h2:=HP.out;rw[h];simp;omega
  have HWW:Hid (w.heap.size≤W.heap.size):=by have h:=HFRW.out;unfold Hid;omega
  obtain⟨z0,z1,z2,-⟩:=HKR.out.cj;have m0:=HFR.out.2 0;have m1:=HFR.out.2 1;have m2:=HFR.out.2 2;obtain⟨W9,hW9⟩:∃ W,W=((v1.setCell ⟨r,0,none⟩ (.slice Xe xe1 xe2)).setCell ⟨r,1,none⟩ (.slice Xk xk1 xk2)).setCell ⟨r,2,none⟩ (.slice Xc xc1 xc2):=⟨_,rfl⟩
  have HB9:Hid (Below w.heap.size w W9):=by
   unfold Hid;rw[hW9];exact ((HKc.out.below.setCell (p:=⟨r,0,none⟩) hwr _).setCell (p:=⟨r,1,none⟩) hwr _).setCell (p:=⟨r,2,none⟩) hwr _
  have HO9:Hid (OwC W9 w.heap.size kx Xe xe1 xe2 Xk xk1 xk2 Xc xc1 xc2):=by
   unfold Hid;rw[hW9];exact (HOX.out.set3 HFRW.out _ _ _).mono HWW.out
  have l0:W9.cell? ⟨r,0,none⟩=some (.slice Xe xe1 xe2):=by rw[hW9];go_simp
  have l1:W9.cell? ⟨r,1,none⟩=some (.slice Xk xk1 xk2):=by rw[hW9];go_simp
  have l2:W9.cell? ⟨r,2,none⟩=some (.slice Xc xc1 xc2):=by rw[hW9];go_simp
  have HW9:=Lib.hid hW9;clear hW9;go_wp2_with fail;rw[← HW9.out];refine bodyPost_ret (v:=.tuple #[.agg #[.slice Xe xe1 xe2,.slice Xk xk1 xk2,.slice Xc xc1 xc2],.int .i64 0]) (by simp[results,Tryz.results48,go_sem,l0,l1,l2]) rfl ⟨kx,0,Xe,xe1,xe2,Xk,xk1,xk2,Xc,xc1,xc2,rfl,HO9.out,HU9.out,HB9.out⟩
end Cs
end Go.Proofs.YtgeafpaognhokaaGreat
