/- Texts of the lower layers, and of layer 9, put together. -/
import Derived.Test.YtgeafpaognhokaaGreatG00
import Derived.Test.YtgeafpaognhokaaGreatCauHas
import Derived.Test.YtgeafpaognhokaaGreatTreeLeaves
import Derived.Test.YtgeafpaognhokaaGreatG10
import Derived.Test.YtgeafpaognhokaaGreatTreeRefRight
set_option maxRecDepth 100000
set_option maxHeartbeats 4000000
namespace Go.Proofs.YtgeafpaognhokaaGreat
open Go.ChangeShapes Go.WideShapes Go.ChangeAt Go.RowKit
namespace Cs
open Tr Cx Sp Rw
theorem boxE3 (w:World) (xa xn:Int) (xs:ByteArray) (xv ya yn:Int) (ys:ByteArray) (yv:Int):∃ (W:World) (p y r:Nat),Hid (W=((w.alloc (.cells #[.int .i64 xa,.int .i64 xn,.string xs,.int .i64 xv] 97)).alloc (.cells #[.int .i64 ya,.int .i64 yn,.string ys,.int .i64 yv] 97)).alloc (.cells #[.int .i64 0,.int .i64 0,.string ⟨#[]⟩,.int .i64 0] 97))∧Hid (p=w.heap.size)∧Hid (y=p+1)∧Hid (r=p+1+1)∧Hid (Kept [(⟨p,0,none⟩,.int .i64 xa),(⟨p,1,none⟩,.int .i64 xn),(⟨p,2,none⟩,.string xs),(⟨p,3,none⟩,.int .i64 xv),(⟨y,0,none⟩,.int .i64 ya),(⟨y,1,none⟩,.int .i64 yn),(⟨y,2,none⟩,.string ys),(⟨y,3,none⟩,.int .i64 yv),(⟨r,0,none⟩,.int .i64 0),(⟨r,1,none⟩,.int .i64 0),(⟨r,2,none⟩,.string ⟨#[]⟩),(⟨r,3,none⟩,.int .i64 0)] w W)∧Hid (Free r W):=by
 refine⟨_,_,_,_,rfl,rfl,rfl,rfl,?_,⟨by simp,fun j=>by go_simp⟩⟩;have h0:=Kept.nil_of (box3_below w #[.int .i64 xa,.int .i64 xn,.string xs,.int .i64 xv] #[.int .i64 ya,.int .i64 yn,.string ys,.int .i64 yv] #[.int .i64 0,.int .i64 0,.string ⟨#[]⟩,.int .i64 0] 97 97 97)
 refine (((((((((((h0.cons_of ?_).cons_of ?_).cons_of ?_).cons_of ?_).cons_of ?_).cons_of ?_).cons_of ?_).cons_of ?_).cons_of ?_).cons_of ?_).cons_of ?_).cons_of ?_ <;> go_simp
def StayE (o:Option E) (w:World) (e:Ending) (w':World):Prop:=∃ z:E,e = .returned (.tuple #[entV z,.bool o.isSome])∧(∀ y,o=some y→z=y)∧Below w.heap.size w w'
theorem stayE_left (cb:List S3) (Cb:Option Addr) (nb cb9:Nat) (ba bb:Nat) (xa xn:Int) (xs:ByteArray) (xv:Int) (w:World) (hl:cb.length=nb) (hn:nb≤100000) (hc:w.cell? ⟨bb,2,none⟩=some (.slice Cb nb cb9)) (hr:Rd w w.heap.size 3 Cb nb cb9 (spsC cb)) (hC:RightC cb) :
  Calls Tryz.prog 180 #[.agg #[.int .i64 xa,.int .i64 xn,.string xs,.int .i64 xv],.agg #[.int .i64 0,.int .i64 0,.string ⟨#[]⟩,.int .i64 0],.pointer (some ⟨bb,0,none⟩),.pointer (some ⟨ba,0,none⟩)] w (StayE (if hasC cb xa xn=true then none else some (⟨xa,xn,xs,xv⟩:E)) w):=by
 obtain⟨h9,hh9⟩:∃ z,hasC cb xa xn=z:=⟨_,rfl⟩;rw[hh9]
 obtain⟨o9,ho9⟩:∃ o,(if h9=true then none else some (⟨xa,xn,xs,xv⟩:E))=o:=⟨_,rfl⟩
 rw[ho9];have HO:=Lib.hid ho9
 have HO2:Hid (o9.isSome = !h9):=by unfold Hid;rw[← ho9];cases h9 <;> rfl
 clear ho9
 have HHAS:Hid (∀ W,Below w.heap.size w W→Calls Tryz.prog 181 #[.slice Cb nb cb9,.agg #[.int .i64 xa,.int .i64 xn]] W fun e w'=>e = .returned (.bool h9)∧Below W.heap.size W w'):=fun W hb=>by
  rw[← hh9];exact has_any cb nb Cb cb9 xa xn W hl (by omega) ((hr.below hb).more hb.size) hC
 clear hl hr hC hh9

 obtain⟨W,p,y,r,HW,HP,HY,HR9,HK,HF⟩:=boxE3 w xa xn xs xv 0 0 ⟨#[]⟩ 0
 have hpw:w.heap.size≤r:=by have:=HP.out;have:=HR9.out;omega
 have e1:¬p=r:=by have:=HR9.out;omega
 have e2:¬r=p:=by omega
 have e3:¬y=r:=by have:=HR9.out;have:=HY.out;omega
 have e4:¬r=y:=by omega
 have e5:¬p=y:=by have:=HY.out;omega
 have e6:¬y=p:=by omega
 have hlt:bb<w.heap.size:=World.block_lt_of_cell? w _ hc
 have hbp:¬bb=r:=by have:=HP.out;omega
 have hbp2:¬r=bb:=by omega
 have hc:=(HK.out.below.cell (p:=⟨bb,2,none⟩) hlt).trans hc;obtain⟨k0,k1,k2,k3,k4,k5,k6,k7,-⟩:=HK.out.cj
 have HKc:Hid (Kept [(⟨p,0,none⟩,.int .i64 xa),(⟨p,1,none⟩,.int .i64 xn),(⟨p,2,none⟩,.string xs),(⟨p,3,none⟩,.int .i64 xv),(⟨bb,2,none⟩,.slice Cb nb cb9),(⟨r,0,none⟩,.int .i64 0),(⟨r,1,none⟩,.int .i64 0),(⟨r,2,none⟩,.string ⟨#[]⟩),(⟨r,3,none⟩,.int .i64 0)] w W.drew):=by
  have h0:=((Kept.nil_of HK.out.below).cons_of HK.out.t8.c3).cons_of HK.out.t8.c2;have h1:=(h0.cons_of HK.out.t8.c1).cons_of HK.out.t8.c0;exact (((((h1.cons_of hc).cons_of k3).cons_of k2).cons_of k1).cons_of k0).drew
 have HF:=Lib.hid (HF.out.drew);clear HK;go_enter Tryz.func180,Tryz.ntmps180;go_wp2_with fail;rw[← HP.out,← HW.out,← HR9.out]
 try rw[← HY.out]
 go_wp2_with fail;refine wp_region_held_drew (S:=fun W=>W.cell? ⟨p,0,none⟩=some (.int .i64 xa)∧W.cell? ⟨p,1,none⟩=some (.int .i64 xn)∧W.cell? ⟨p,2,none⟩=some (.string xs)∧W.cell? ⟨p,3,none⟩=some (.int .i64 xv)∧W.cell? ⟨bb,2,none⟩=some (.slice Cb nb cb9)) (by kernel_rfl) (by go_keep) (fun hHeld=>?_);refine Tk 0 12 ?_;refine Tk 1 13 ?_;refine Tk 2 14 ?_;refine Tk 3 15 ?_;refine Tk 4 16 ?_;refine Tc 5 (fun K hK=>?_);go_simp;(go_at_call 181;refine (HHAS.out W.drew HKc.out.below).mono ?_);rintro e v1 ⟨rfl,hb9⟩;have HKc:=Lib.hid (HKc.out.later hb9);have HF:=Lib.hid (HF.out.later hb9);clear hb9;have z0:=HKc.out.tail.tail.tail.tail.tail.c0;have z1:=HKc.out.tail.tail.tail.tail.tail.c1;have z2:=HKc.out.tail.tail.tail.tail.tail.c2;have z3:=HKc.out.tail.tail.tail.tail.tail.c3;have m0:=HF.out.2 0;have m1:=HF.out.2 1
 have m2:=HF.out.2 2;have m3:=HF.out.2 3;obtain⟨W9,hW9⟩:∃ W,W=(((v1.setCell ⟨r,0,none⟩ (.int .i64 xa)).setCell ⟨r,1,none⟩ (.int .i64 xn)).setCell ⟨r,2,none⟩ (.string xs)).setCell ⟨r,3,none⟩ (.int .i64 xv):=⟨_,rfl⟩
 have HB9:Hid (Below w.heap.size w W9):=by
  unfold Hid;rw[hW9];exact (((HKc.out.below.setCell (p:=⟨r,0,none⟩) hpw _).setCell (p:=⟨r,1,none⟩) hpw _).setCell (p:=⟨r,2,none⟩) hpw _).setCell (p:=⟨r,3,none⟩) hpw _
 have l0:W9.cell? ⟨r,0,none⟩=some (.int .i64 xa):=by rw[hW9];go_simp
 have l1:W9.cell? ⟨r,1,none⟩=some (.int .i64 xn):=by rw[hW9];go_simp
 have l2:W9.cell? ⟨r,2,none⟩=some (.string xs):=by rw[hW9];go_simp
 have l3:W9.cell? ⟨r,3,none⟩=some (.int .i64 xv):=by rw[hW9];go_simp
 have HW9:=Lib.hid hW9;clear hW9;clear hHeld;refine Th hK ?_ (fun hHeld=>?_)
 ·exact⟨HKc.out.c0,HKc.out.c1,HKc.out.c2,HKc.out.c3,HKc.out.c4⟩
 clear hK K;refine Tk 6 18 ?_;refine Tc 7 (fun K hK=>?_);go_simp;refine Th hK ?_ (fun hHeld2=>?_)
 ·(try dsimp only);go_keep
 clear hK K hHeld;have hHeld:=hHeld2;clear hHeld2;refine Tk 8 7 ?_;refine wpAnyH_done (by kernel_rfl) ?_ _;clear hHeld;go_wp2_with fail;rw[← HW9.out]
 refine bodyPost_ret (v:=.tuple #[.agg #[.int .i64 xa,.int .i64 xn,.string xs,.int .i64 xv],.bool (!h9)]) (by simp[results,Tryz.results180,go_sem,l0,l1,l2,l3]) rfl ⟨⟨xa,xn,xs,xv⟩,by rw[HO2.out],fun y h=>by have h2:=HO.out;rw[h]at h2;cases h9 <;> simp_all,HB9.out⟩
theorem stayE_right (ca:List S3) (Ca:Option Addr) (na ca9:Nat) (ba bb:Nat) (ya yn:Int) (ys:ByteArray) (yv:Int) (w:World) (hl:ca.length=na) (hn:na≤100000) (hc:w.cell? ⟨ba,2,none⟩=some (.slice Ca na ca9)) (hr:Rd w w.heap.size 3 Ca na ca9 (spsC ca)) (hC:RightC ca) (h1:1≤yn) :
  Calls Tryz.prog 180 #[.agg #[.int .i64 0,.int .i64 0,.string ⟨#[]⟩,.int .i64 0],.agg #[.int .i64 ya,.int .i64 yn,.string ys,.int .i64 yv],.pointer (some ⟨bb,0,none⟩),.pointer (some ⟨ba,0,none⟩)] w (StayE (if hasC ca ya yn=true then none else some (⟨ya,yn,ys,yv⟩:E)) w):=by
 obtain⟨h9,hh9⟩:∃ z,hasC ca ya yn=z:=⟨_,rfl⟩;rw[hh9]
 obtain⟨o9,ho9⟩:∃ o,(if h9=true then none else some (⟨ya,yn,ys,yv⟩:E))=o:=⟨_,rfl⟩
 rw[ho9];have HO:=Lib.hid ho9
 have HO2:Hid (o9.isSome = !h9):=by unfold Hid;rw[← ho9];cases h9 <;> rfl
 clear ho9
 have HHAS:Hid (∀ W,Below w.heap.size w W→Calls Tryz.prog 181 #[.slice Ca na ca9,.agg #[.int .i64 ya,.int .i64 yn]] W fun e w'=>e = .returned (.bool h9)∧Below W.heap.size W w'):=fun W hb=>by
  rw[← hh9];exact has_any ca na Ca ca9 ya yn W hl (by omega) ((hr.below hb).more hb.size) hC
 clear hl hr hC hh9
 have fy:(yn==0)=false:=by rw[beq_eq_false_iff_ne];omega
 obtain⟨W,p,y,r,HW,HP,HY,HR9,HK,HF⟩:=boxE3 w 0 0 ⟨#[]⟩ 0 ya yn ys yv
 have hpw:w.heap.size≤r:=by have:=HP.out;have:=HR9.out;omega
 have e1:¬p=r:=by have:=HR9.out;omega
 have e2:¬r=p:=by omega
 have e3:¬y=r:=by have:=HR9.out;have:=HY.out;omega
 have e4:¬r=y:=by omega
 have e5:¬p=y:=by have:=HY.out;omega
 have e6:¬y=p:=by omega
 have hlt:ba<w.heap.size:=World.block_lt_of_cell? w _ hc
 have hbp:¬ba=r:=by have:=HP.out;omega
 have hbp2:¬r=ba:=by omega
 have hc:=(HK.out.below.cell (p:=⟨ba,2,none⟩) hlt).trans hc;obtain⟨k0,k1,k2,k3,k4,k5,k6,k7,-⟩:=HK.out.cj
 have HKc:Hid (Kept [(⟨y,0,none⟩,.int .i64 ya),(⟨y,1,none⟩,.int .i64 yn),(⟨y,2,none⟩,.string ys),(⟨y,3,none⟩,.int .i64 yv),(⟨ba,2,none⟩,.slice Ca na ca9),(⟨r,0,none⟩,.int .i64 0),(⟨r,1,none⟩,.int .i64 0),(⟨r,2,none⟩,.string ⟨#[]⟩),(⟨r,3,none⟩,.int .i64 0)] w W.drew):=by
  have h0:=((Kept.nil_of HK.out.below).cons_of HK.out.t8.c3).cons_of HK.out.t8.c2;have h1:=(h0.cons_of HK.out.t8.c1).cons_of HK.out.t8.c0;exact (((((h1.cons_of hc).cons_of k7).cons_of k6).cons_of k5).cons_of k4).drew
 have HF:=Lib.hid (HF.out.drew);clear HK;go_enter Tryz.func180,Tryz.ntmps180;go_wp2_with fail;rw[← HP.out,← HW.out,← HR9.out]
 try rw[← HY.out]
 go_wp2_with fail;refine wp_region_held_drew (S:=fun W=>W.cell? ⟨y,0,none⟩=some (.int .i64 ya)∧W.cell? ⟨y,1,none⟩=some (.int .i64 yn)∧W.cell? ⟨y,2,none⟩=some (.string ys)∧W.cell? ⟨y,3,none⟩=some (.int .i64 yv)∧W.cell? ⟨ba,2,none⟩=some (.slice Ca na ca9)) (by kernel_rfl) (by go_keep) (fun hHeld=>?_);refine Tk 0 23 ?_;refine Tk 1 24 ?_;refine Tk 2 25 ?_;refine Tk 3 26 ?_;refine Tk 4 27 ?_;refine Tc 5 (fun K hK=>?_);go_simp;(go_at_call 181;refine (HHAS.out W.drew HKc.out.below).mono ?_);rintro e v1 ⟨rfl,hb9⟩;have HKc:=Lib.hid (HKc.out.later hb9);have HF:=Lib.hid (HF.out.later hb9);clear hb9;have z0:=HKc.out.tail.tail.tail.tail.tail.c0;have z1:=HKc.out.tail.tail.tail.tail.tail.c1;have z2:=HKc.out.tail.tail.tail.tail.tail.c2;have z3:=HKc.out.tail.tail.tail.tail.tail.c3;have m0:=HF.out.2 0;have m1:=HF.out.2 1
 have m2:=HF.out.2 2;have m3:=HF.out.2 3;obtain⟨W9,hW9⟩:∃ W,W=(((v1.setCell ⟨r,0,none⟩ (.int .i64 ya)).setCell ⟨r,1,none⟩ (.int .i64 yn)).setCell ⟨r,2,none⟩ (.string ys)).setCell ⟨r,3,none⟩ (.int .i64 yv):=⟨_,rfl⟩
 have HB9:Hid (Below w.heap.size w W9):=by
  unfold Hid;rw[hW9];exact (((HKc.out.below.setCell (p:=⟨r,0,none⟩) hpw _).setCell (p:=⟨r,1,none⟩) hpw _).setCell (p:=⟨r,2,none⟩) hpw _).setCell (p:=⟨r,3,none⟩) hpw _
 have l0:W9.cell? ⟨r,0,none⟩=some (.int .i64 ya):=by rw[hW9];go_simp
 have l1:W9.cell? ⟨r,1,none⟩=some (.int .i64 yn):=by rw[hW9];go_simp
 have l2:W9.cell? ⟨r,2,none⟩=some (.string ys):=by rw[hW9];go_simp
 have l3:W9.cell? ⟨r,3,none⟩=some (.int .i64 yv):=by rw[hW9];go_simp
 have HW9:=Lib.hid hW9;clear hW9;clear hHeld;refine Th hK ?_ (fun hHeld=>?_)
 ·exact⟨HKc.out.c0,HKc.out.c1,HKc.out.c2,HKc.out.c3,HKc.out.c4⟩
 clear hK K;refine Tk 6 29 ?_;refine Tc 7 (fun K hK=>?_);go_simp;refine Th hK ?_ (fun hHeld2=>?_)
 ·(try dsimp only);go_keep
 clear hK K hHeld;have hHeld:=hHeld2;clear hHeld2;refine Tk 8 7 ?_;refine wpAnyH_done (by kernel_rfl) ?_ _;clear hHeld;go_wp2_with fail;rw[← HW9.out]
 refine bodyPost_ret (v:=.tuple #[.agg #[.int .i64 ya,.int .i64 yn,.string ys,.int .i64 yv],.bool (!h9)]) (by simp[results,Tryz.results180,go_sem,l0,l1,l2,l3]) rfl ⟨⟨ya,yn,ys,yv⟩,by rw[HO2.out],fun y h=>by have h2:=HO.out;rw[h]at h2;cases h9 <;> simp_all,HB9.out⟩
theorem stayE_both (ba bb:Nat) (xa xn:Int) (xs:ByteArray) (xv:Int) (ya yn:Int) (ys:ByteArray) (yv:Int) (w:World) (h1:1≤xn) (h2:1≤yn) :
  Calls Tryz.prog 180 #[.agg #[.int .i64 xa,.int .i64 xn,.string xs,.int .i64 xv],.agg #[.int .i64 ya,.int .i64 yn,.string ys,.int .i64 yv],.pointer (some ⟨bb,0,none⟩),.pointer (some ⟨ba,0,none⟩)] w (StayE (some (grE ⟨xa,xn,xs,xv⟩ ⟨ya,yn,ys,yv⟩)) w):=by
 obtain⟨z,hz⟩:∃ z,grE ⟨xa,xn,xs,xv⟩ ⟨ya,yn,ys,yv⟩=z:=⟨_,rfl⟩
 have HG:Hid (∀ W,Calls Tryz.prog 182 #[.agg #[.int .i64 xa,.int .i64 xn,.string xs,.int .i64 xv],.agg #[.int .i64 ya,.int .i64 yn,.string ys,.int .i64 yv]] W fun e w'=>e = .returned (entV z)∧Below W.heap.size W w'):=fun W=>by
  rw[← hz];exact greater_any ⟨xa,xn,xs,xv⟩ ⟨ya,yn,ys,yv⟩ W
 rw[hz];clear hz;obtain⟨za,zn,zs,zv⟩:=z
 have fx:(xn==0)=false:=by rw[beq_eq_false_iff_ne];omega
 have fy:(yn==0)=false:=by rw[beq_eq_false_iff_ne];omega
 obtain⟨W,p,y,r,HW,HP,HY,HR9,HK,HF⟩:=boxE3 w xa xn xs xv ya yn ys yv
 have hpw:w.heap.size≤r:=by have:=HP.out;have:=HR9.out;omega
 have e1:¬p=r:=by have:=HR9.out;omega
 have e2:¬r=p:=by omega
 have e3:¬y=r:=by have:=HR9.out;have:=HY.out;omega
 have e4:¬r=y:=by omega
 have e5:¬p=y:=by have:=HY.out;omega
 have e6:¬y=p:=by omega
 obtain⟨k0,k1,k2,k3,k4,k5,k6,k7,-⟩:=HK.out.cj;go_enter Tryz.func180,Tryz.ntmps180;go_wp2_with fail;rw[← HP.out,← HW.out,← HR9.out]
 try rw[← HY.out]
 go_wp2_with fail;refine (HG.out W).mono ?_;rintro e v1 ⟨rfl,hb9⟩;have HKc:=Lib.hid (HK.out.t8.later hb9);have HF:=Lib.hid (HF.out.later hb9);clear hb9 k0 k1 k2 k3 k4 k5 k6 k7;obtain⟨z0,z1,z2,z3,-⟩:=HKc.out.cj;have m0:=HF.out.2 0;have m1:=HF.out.2 1;have m2:=HF.out.2 2;have m3:=HF.out.2 3;obtain⟨W9,hW9⟩:∃ W,W=(((v1.setCell ⟨r,0,none⟩ (.int .i64 za)).setCell ⟨r,1,none⟩ (.int .i64 zn)).setCell ⟨r,2,none⟩ (.string zs)).setCell ⟨r,3,none⟩ (.int .i64 zv):=⟨_,rfl⟩
 have HB9:Hid (Below w.heap.size w W9):=by
  unfold Hid;rw[hW9];exact (((HKc.out.below.setCell (p:=⟨r,0,none⟩) hpw _).setCell (p:=⟨r,1,none⟩) hpw _).setCell (p:=⟨r,2,none⟩) hpw _).setCell (p:=⟨r,3,none⟩) hpw _
 have l0:W9.cell? ⟨r,0,none⟩=some (.int .i64 za):=by rw[hW9];go_simp
 have l1:W9.cell? ⟨r,1,none⟩=some (.int .i64 zn):=by rw[hW9];go_simp
 have l2:W9.cell? ⟨r,2,none⟩=some (.string zs):=by rw[hW9];go_simp
 have l3:W9.cell? ⟨r,3,none⟩=some (.int .i64 zv):=by rw[hW9];go_simp
 have HW9:=Lib.hid hW9;clear hW9;go_wp2_with fail;rw[← HW9.out];refine bodyPost_ret (v:=.tuple #[.agg #[.int .i64 za,.int .i64 zn,.string zs,.int .i64 zv],.bool true]) (by simp[results,Tryz.results180,go_sem,l0,l1,l2,l3]) rfl ⟨⟨za,zn,zs,zv⟩,rfl,fun y h=>by injection h,HB9.out⟩
end Cs
end Go.Proofs.YtgeafpaognhokaaGreat
namespace Go.Proofs.YtgeafpaognhokaaGreat
open Go.ChangeShapes Go.WideShapes Go.ChangeAt Go.RowKit
namespace Tr
open Sp Rw
end Tr
end Go.Proofs.YtgeafpaognhokaaGreat
namespace Go.Proofs.YtgeafpaognhokaaGreat
open Go.ChangeShapes Go.WideShapes Go.ChangeAt Go.RowKit
namespace Tr
open Sp Rw
section
variable {α:Type} {lt:α→α→Prop} {ab:α→Prop} {m:List α} {x b:α} {r:Option α}
end
theorem push_ent (W:World) (base q:Nat) (hq:W.heap.size=q) {A:Option Addr} {n c:Nat} {l:List E} (h:Own W base 97 4 A n c (entsC l)) (hl:l.length=n) (hb:base≤W.heap.size) (e:E) (hn:n≤800000) :
  ∃ A' c' w',(Builtin.append_ #[32,32] 32 #[.slice A n c,.slice (some ⟨q,0,none⟩) 1 1]).run Tryz.prog (W.alloc (.cells #[.int .i64 e.a,.int .i64 e.n,.string e.s,.int .i64 e.v] 97)) = .ok (.slice A' (n+1) c') w'∧Own w' base 97 4 A' (n+1) c' (entsC (l++[e]))∧Below base W w':=by
 subst hl;obtain⟨A',c',w',r1,r2,r3⟩:=Rw.push (f:=entC) entC_len entC_one (t:=32) Tryz.underlying32 infoE rfl (by omega) (by omega) W base q hq hb (.slice A l.length c) l h.row e _ rfl (by omega)
 have e1:(l++[e]).length=l.length+1:=by simp
 rw[e1]at r1 r2;exact⟨A',c',w',r1,r2,r3⟩
def lastK (ks:List (ByteArray×T)) (j:Nat):ByteArray:=match j with | 0=>⟨#[]⟩ | j+1=>((ks.map fun x=>x.1)[j]?).getD ⟨#[]⟩
theorem str_cons {k:ByteArray} (h:1≤k.size):∃ a l,k.toList=a::l:=by
 rcases hk:k.toList with _ | ⟨a,l⟩
 ·have h1:k.toList.length=k.size:=by rw[ByteArray.toList_eq];simp
  rw[hk]at h1
  simp at h1
  omega
 ·exact⟨a,l,rfl⟩
theorem str_isEmpty {k:ByteArray} (h:1≤k.size):k.toList.isEmpty=false:=by
 obtain⟨a,l,e⟩:=str_cons h;rw[e];rfl
theorem nil_isEmpty:(⟨#[]⟩:ByteArray).toList.isEmpty=true:=by
 rw[ByteArray.toList_eq];rfl
def cntOf:Option Value→Nat | some (.slice _ n _)=>n | _=>0
end Tr
end Go.Proofs.YtgeafpaognhokaaGreat
namespace Go.Proofs.YtgeafpaognhokaaGreat
open Go.ChangeShapes Go.WideShapes Go.ChangeAt Go.RowKit
namespace Tr
open Sp Rw
set_option maxRecDepth 100000 in
set_option maxHeartbeats 4000000 in
theorem refdots_own (t:T) (Ae Ak:Option Addr) (ne nk ce ck:Nat) (w:World) (hn:nodes t≤1000) (hr:RdT w w.heap.size t ⟨Ae,ne,ce⟩ ⟨Ak,nk,ck⟩) (hg:Cx.goodD (dl t)) (u:List Cx.S3) (hu:Cx.OfC (dl t) u) (q:Nat) (hq:u.length=q) (hq8:q≤800000) :
  Calls Tryz.prog 72 #[.agg #[.slice Ae ne ce,.slice Ak nk ck]] w fun e w'=>∃ A' c',e = .returned (.slice A' q c')∧Own w' w.heap.size 117 3 A' q c' (spsC u)∧Below w.heap.size w w':=by
 have HR:=Lib.hid hr;have HN:=Lib.hid hn;have HU:=Lib.hid hu;have HQ:=Lib.hid hq;have HG2:=Lib.hid hg;have HQ8:=Lib.hid hq8;clear hr hn hu hq hg hq8;obtain⟨g,hg⟩:∃ g,g=w.heap.size:=⟨_,rfl⟩;have HK:=Lib.hid (tree_box w Ae Ak ne nk ce ck);rw[← hg]at HK;obtain⟨W0,hW0⟩:∃ W,W=w.alloc (.cells #[.slice Ae ne ce,.slice Ak nk ck] 35):=⟨_,rfl⟩;rw[← hW0]at HK;have HG:=Lib.hid hg;have HW0:=Lib.hid hW0;have k0:=HK.out.c0;have k1:=HK.out.c1;clear hg hW0;go_enter Tryz.func72,Tryz.ntmps72;go_wp2_with fail;rw[← HG.out,← HW0.out];refine (leaves_any t Ae Ak ne nk ce ck W0 (by have:=HN.out;omega) (RdT.more HK.out.below.size _ (RdT.below HR.out HK.out.below))).mono ?_;rintro e w1 ⟨Al,cl,rfl,hl,hb1⟩;have HK1:=Lib.hid (HK.out.later hb1);have HLF:=Lib.hid hl
 obtain⟨n,hn⟩:∃ n,n=(leaves t).length:=⟨_,rfl⟩;rw[← hn]at HLF ⊢;have HNN:=Lib.hid hn
 have hn1:n≤1000:=by have:=leaves_nodes t;have:=HN.out;omega
 clear k0 k1 hb1 hl hn;go_wp2_with fail
 go_loopw [3,10] (fun v i wr=>∃ (k:Nat) (Ax:Option Addr) (cx:Nat),k≤n∧i = .int .i64 k∧v = .slice Ax k cx∧Hid (Own wr w1.heap.size 37 2 Ax k cx (((leaves t).take k).map (fun x=>dotE x.2) |>.flatMap Cx.dotC))∧Hid (Gr w1 wr (.slice none 0 0) (.slice Ax k cx))) (fun _ i _=>n-(intOf i).toNat)
 case atStart=>exact⟨0,none,0,by omega,rfl,rfl,⟨World.ownsRow_nil _ _ _ _,by simp⟩,Gr.refl _ _⟩
 case round=>
  obtain⟨k,Ax,cx,hk,rfl,rfl,HO,HGR⟩:=hrel;have hbw:Below w1.heap.size w1 wr:=HGR.out.below (Nat.le_refl _) (fun k hk=>by simp[Value.ownBlock]at hk)
  by_cases hlt:k<n
  ·have hkl:k<(leaves t).length:=by rw[← HNN.out];exact hlt
   obtain⟨b,o,rfl,hb,hc⟩:=LfRd.at_ HLF.out (by omega);obtain⟨s,_,c1,c2,c3,c4,_,_⟩:=hc k hkl;have c1:=(hbw.cell (p:=⟨b,o+k*5+1,none⟩) hb).trans c1;have c2:=(hbw.cell (p:=⟨b,o+k*5+2,none⟩) hb).trans c2
   have HSUC:Hid (((leaves t).take (k+1)).map (fun x=>dotE x.2)=((leaves t).take k).map (fun x=>dotE x.2)++[(((leaves t)[k]).2.a,((leaves t)[k]).2.n)]):=by unfold Hid;rw[List.take_succ_eq_append_getElem hkl,List.map_append];rfl
   obtain⟨ea,hea⟩:∃ x,x=((leaves t)[k]).2.a:=⟨_,rfl⟩;obtain⟨en,hen⟩:∃ x,x=((leaves t)[k]).2.n:=⟨_,rfl⟩;rw[← hea]at c1 HSUC;rw[← hen]at c2 HSUC;obtain⟨A6,c6,w6,r1,r2,r3⟩:=push_dot wr w1.heap.size wr.heap.size rfl HO.out hbw.size (ea,en) (by omega)
   have HO6:Hid (Own w6 w1.heap.size 37 2 A6 (k+1) c6 (((leaves t).take (k+1)).map (fun x=>dotE x.2) |>.flatMap Cx.dotC)):=by unfold Hid;rw[HSUC.out];exact r2
   have HGR6:Hid (Gr w1 w6 (.slice none 0 0) (.slice A6 (k+1) c6)):=HGR.out.trans r3;have Hrun:=Lib.hid r1;clear hc hea hen r1 r2 r3 HSUC c3 c4 hbw;go_wp2_with (at_builtin;refine Lib.wpList_append_run _ rfl _ _ _ _ rfl _ _ rfl rfl _ _ Hrun.out ?_);go_roundw
   case rel=>exact⟨k+1,A6,c6,by omega,by go_num,rfl,HO6.out,HGR6.out⟩
   case measure=>simp[intOf];omega
  ·obtain rfl:k=n:=by omega
   have hrd:Rd wr wr.heap.size 2 Ax k cx ((dl t).flatMap Cx.dotC):=by
    have h1:=HO.out;rw[List.take_of_length_le (by rw[← HNN.out];omega)]at h1;exact h1.rd
   have hof:=Cx.refofC_own (dl t) k Ax cx wr (by rw[dl_len];exact HNN.out.symm) hn1 hrd HG2.out u HU.out q HQ.out HQ8.out;have HOF:=Lib.hid hof;have HB:=Lib.hid (HK1.out.below.trans (hbw.mono HK1.out.below.size));clear hrd hof hbw;go_wp2_with fail;refine HOF.out.mono ?_;rintro e w3 ⟨A3,c3,rfl,hr3,hb3⟩;have HR3:=Lib.hid (hr3.mono HB.out.size);have HB3:=Lib.hid (HB.out.trans (hb3.mono HB.out.size));clear hr3 hb3;go_wp2_with fail;go_ret;exact⟨A3,c3,rfl,HR3.out,HB3.out⟩
end Tr
end Go.Proofs.YtgeafpaognhokaaGreat
namespace Go.Proofs.YtgeafpaognhokaaGreat
open Go.ChangeShapes Go.WideShapes Go.ChangeAt Go.RowKit
namespace Tr
open Sp Rw
theorem push_str (W:World) (base q:Nat) (hq:W.heap.size=q) {A:Option Addr} {n c:Nat} {l:List ByteArray} (h:Own W base 9 1 A n c (strs l)) (hb:base≤W.heap.size) (s:ByteArray) (hn:n≤800000) :
  ∃ A' c' w',(Builtin.append_ #[25,25] 25 #[.slice A n c,.slice (some ⟨q,0,none⟩) 1 1]).run Tryz.prog (W.alloc (.cells #[.string s] 9)) = .ok (.slice A' (n+1) c') w'∧Own w' base 9 1 A' (n+1) c' (strs (l++[s]))∧Below base W w':=by
 subst hq;have hb1:Below W.heap.size W (W.alloc (.cells #[.string s] 9)):=Dt.box_below _ _ _;obtain⟨A4,c4,w4,r1,r2,r3⟩:=add_key (W.alloc (.cells #[.string s] 9)) base (own_later h hb1) (Nat.le_trans hb hb1.size) (rd_key _ W.heap.size (W.heap.size+1) (by omega) s (heap_alloc_new _ _)) hn;exact⟨A4,c4,w4,r1,r2,(hb1.mono hb).trans r3⟩
theorem rd_one1 (W:World) (s:ByteArray):Rd (W.alloc (.cells #[.string s] 9)) (W.alloc (.cells #[.string s] 9)).heap.size 1 (some ⟨W.heap.size,0,none⟩) 1 1 (strs [s]):=rd_key _ _ _ (by simp) s (heap_alloc_new _ _)
theorem rd_text {w:World} {B n c:Nat} {A:Option Addr} {l:List ByteArray} (h:Rd w B 1 A n c (strs l)) (hn:0<n):∃ b o,A=some ⟨b,o,none⟩∧b<B∧∀ (i:Nat) (hi:i<l.length),w.cell? ⟨b,o+i,none⟩=some (.string l[i]):=by
 obtain⟨b,o,e,hb,hc⟩:=h.at_ hn;exact⟨b,o,e,hb,fun i hi=>hc i _ (by simp[strs,hi])⟩
theorem strs_len (l:List ByteArray):(strs l).length=l.length:=List.length_map _
theorem rd_len1 {w:World} {B n c:Nat} {A:Option Addr} {l:List ByteArray} (h:Rd w B 1 A n c (strs l)):l.length=n:=by
 have:=h.len;rw[strs_len,Nat.mul_one]at this;exact this
end Tr
end Go.Proofs.YtgeafpaognhokaaGreat
namespace Go.Proofs.YtgeafpaognhokaaGreat
open Go.ChangeShapes Go.WideShapes Go.ChangeAt Go.RowKit
namespace Cs
open Tr Cx Sp Rw Classical
end Cs
end Go.Proofs.YtgeafpaognhokaaGreat
