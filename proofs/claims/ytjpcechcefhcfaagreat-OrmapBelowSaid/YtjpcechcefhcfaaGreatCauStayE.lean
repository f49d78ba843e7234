/- What is known: which entries stay. -/
import Derived.Test.YtjpcechcefhcfaaGreatG00
import Derived.Test.YtjpcechcefhcfaaGreatCauHas
set_option maxRecDepth 100000
set_option maxHeartbeats 4000000
namespace Go.Proofs.YtjpcechcefhcfaaGreat
open Go.ChangeShapes Go.WideShapes Go.ChangeAt Go.RowKit
namespace Cs
open Tr Cx Sp Rw
theorem boxE3 (w:World) (xa xn:Int) (xs:ByteArray) (xv ya yn:Int) (ys:ByteArray) (yv:Int):∃ (W:World) (p y r:Nat),Hid (W=((w.alloc (.cells #[.int .i64 xa,.int .i64 xn,.string xs,.int .i64 xv] 61)).alloc (.cells #[.int .i64 ya,.int .i64 yn,.string ys,.int .i64 yv] 61)).alloc (.cells #[.int .i64 0,.int .i64 0,.string ⟨#[]⟩,.int .i64 0] 61))∧Hid (p=w.heap.size)∧Hid (y=p+1)∧Hid (r=p+1+1)∧Hid (Kept [(⟨p,0,none⟩,.int .i64 xa),(⟨p,1,none⟩,.int .i64 xn),(⟨p,2,none⟩,.string xs),(⟨p,3,none⟩,.int .i64 xv),(⟨y,0,none⟩,.int .i64 ya),(⟨y,1,none⟩,.int .i64 yn),(⟨y,2,none⟩,.string ys),(⟨y,3,none⟩,.int .i64 yv),(⟨r,0,none⟩,.int .i64 0),(⟨r,1,none⟩,.int .i64 0),(⟨r,2,none⟩,.string ⟨#[]⟩),(⟨r,3,none⟩,.int .i64 0)] w W)∧Hid (Free r W):=by
 refine⟨_,_,_,_,rfl,rfl,rfl,rfl,?_,⟨by simp,fun j=>by go_simp⟩⟩;have h0:=Kept.nil_of (box3_below w #[.int .i64 xa,.int .i64 xn,.string xs,.int .i64 xv] #[.int .i64 ya,.int .i64 yn,.string ys,.int .i64 yv] #[.int .i64 0,.int .i64 0,.string ⟨#[]⟩,.int .i64 0] 61 61 61)
 refine (((((((((((h0.cons_of ?_).cons_of ?_).cons_of ?_).cons_of ?_).cons_of ?_).cons_of ?_).cons_of ?_).cons_of ?_).cons_of ?_).cons_of ?_).cons_of ?_).cons_of ?_ <;> go_simp
def StayE (o:Option E) (w:World) (e:Ending) (w':World):Prop:=∃ z:E,e = .returned (.tuple #[entV z,.bool o.isSome])∧(∀ y,o=some y→z=y)∧Below w.heap.size w w'
theorem stayE_left (cb:List S3) (Cb:Option Addr) (nb cb9:Nat) (ba bb:Nat) (xa xn:Int) (xs:ByteArray) (xv:Int) (w:World) (hl:cb.length=nb) (hn:nb≤100000) (hc:w.cell? ⟨bb,2,none⟩=some (.slice Cb nb cb9)) (hr:Rd w w.heap.size 3 Cb nb cb9 (spsC cb)) (hC:RightC cb) :
  Calls Tryz.prog 124 #[.agg #[.int .i64 xa,.int .i64 xn,.string xs,.int .i64 xv],.agg #[.int .i64 0,.int .i64 0,.string ⟨#[]⟩,.int .i64 0],.pointer (some ⟨bb,0,none⟩),.pointer (some ⟨ba,0,none⟩)] w (StayE (if hasC cb xa xn=true then none else some (⟨xa,xn,xs,xv⟩:E)) w):=by
 obtain⟨h9,hh9⟩:∃ z,hasC cb xa xn=z:=⟨_,rfl⟩;rw[hh9]
 obtain⟨o9,ho9⟩:∃ o,(if h9=true then none else some (⟨xa,xn,xs,xv⟩:E))=o:=⟨_,rfl⟩
 rw[ho9];have HO:=Lib.hid ho9
 have HO2:Hid (o9.isSome = !h9):=by unfold Hid;rw[← ho9];cases h9 <;> rfl
 clear ho9
 have HHAS:Hid (∀ W,Below w.heap.size w W→Calls Tryz.prog 125 #[.slice Cb nb cb9,.agg #[.int .i64 xa,.int .i64 xn]] W fun e w'=>e = .returned (.bool h9)∧Below W.heap.size W w'):=fun W hb=>by
  rw[← hh9];exact has_any cb nb Cb cb9 xa xn W hl (by omega) ((hr.below hb).more hb.size) hC
 clear hl hr hC hh9

 obtain⟨W,p,y,r,HW,HP,HY,HR9,HK,HF⟩:=boxE3 w xa xn xs xv 0 0 ⟨#[]⟩ 0
 have hpw:w.heap.size≤r:=by have:=HP.out;have:=HR9.out;omega
 have e1:¬p=r:=by have:=HR9.out;omega
 have e2:¬r=p:=by omega
 have e3:¬y=r:=by have:=HR9.out;have:=HY.out;omega
 have e4:¬r=y:=by omega
 have e5:¬p=y:=by have:=HY.out;omega
 have e6:¬y=p:=by omega
 have hlt:bb<w.heap.size:=World.block_lt_of_cell? w _ hc
 have hbp:¬bb=r:=by have:=HP.out;omega
 have hbp2:¬r=bb:=by omega
 have hc:=(HK.out.below.cell (p:=⟨bb,2,none⟩) hlt).trans hc;obtain⟨k0,k1,k2,k3,k4,k5,k6,k7,-⟩:=HK.out.cj
 have HKc:Hid (Kept [(⟨p,0,none⟩,.int .i64 xa),(⟨p,1,none⟩,.int .i64 xn),(⟨p,2,none⟩,.string xs),(⟨p,3,none⟩,.int .i64 xv),(⟨bb,2,none⟩,.slice Cb nb cb9),(⟨r,0,none⟩,.int .i64 0),(⟨r,1,none⟩,.int .i64 0),(⟨r,2,none⟩,.string ⟨#[]⟩),(⟨r,3,none⟩,.int .i64 0)] w W.drew):=by
  have h0:=((Kept.nil_of HK.out.below).cons_of HK.out.t8.c3).cons_of HK.out.t8.c2;have h1:=(h0.cons_of HK.out.t8.c1).cons_of HK.out.t8.c0;exact (((((h1.cons_of hc).cons_of k3).cons_of k2).cons_of k1).cons_of k0).drew
 have HF:=Lib.hid (HF.out.drew);clear HK;go_enter Tryz.func124,Tryz.ntmps124;go_wp2_with fail;rw[← HP.out,← HW.out,← HR9.out]
 try rw[← HY.out]
 go_wp2_with fail;refine wp_region_held_drew (S:=fun W=>W.cell? ⟨p,0,none⟩=some (.int .i64 xa)∧W.cell? ⟨p,1,none⟩=some (.int .i64 xn)∧W.cell? ⟨p,2,none⟩=some (.string xs)∧W.cell? ⟨p,3,none⟩=some (.int .i64 xv)∧W.cell? ⟨bb,2,none⟩=some (.slice Cb nb cb9)) (by kernel_rfl) (by go_keep) (fun hHeld=>?_);refine Tk 0 12 ?_;refine Tk 1 13 ?_;refine Tk 2 14 ?_;refine Tk 3 15 ?_;refine Tk 4 16 ?_;refine Tc 5 (fun K hK=>?_);go_simp;(go_at_call 125;refine (HHAS.out W.drew HKc.out.below).mono ?_);rintro e v1 ⟨rfl,hb9⟩;have HKc:=Lib.hid (HKc.out.later hb9);have HF:=Lib.hid (HF.out.later hb9);clear hb9;have z0:=HKc.out.tail.tail.tail.tail.tail.c0;have z1:=HKc.out.tail.tail.tail.tail.tail.c1;have z2:=HKc.out.tail.tail.tail.tail.tail.c2;have z3:=HKc.out.tail.tail.tail.tail.tail.c3;have m0:=HF.out.2 0;have m1:=HF.out.2 1
 have m2:=HF.out.2 2;have m3:=HF.out.2 3;obtain⟨W9,hW9⟩:∃ W,W=(((v1.setCell ⟨r,0,none⟩ (.int .i64 xa)).setCell ⟨r,1,none⟩ (.int .i64 xn)).setCell ⟨r,2,none⟩ (.string xs)).setCell ⟨r,3,none⟩ (.int .i64 xv):=⟨_,rfl⟩
 have HB9:Hid (Below w.heap.size w W9):=by
  unfold Hid;rw[hW9];exact (((HKc.out.below.setCell (p:=⟨r,0,none⟩) hpw _).setCell (p:=⟨r,1,none⟩) hpw _).setCell (p:=⟨r,2,none⟩) hpw _).setCell (p:=⟨r,3,none⟩) hpw _
 have l0:W9.cell? ⟨r,0,none⟩=some (.int .i64 xa):=by rw[hW9];go_simp
 have l1:W9.cell? ⟨r,1,none⟩=some (.int .i64 xn):=by rw[hW9];go_simp
 have l2:W9.cell? ⟨r,2,none⟩=some (.string xs):=by rw[hW9];go_simp
 have l3:W9.cell? ⟨r,3,none⟩=some (.int .i64 xv):=by rw[hW9];go_simp
 have HW9:=Lib.hid hW9;clear hW9;clear hHeld;refine Th hK ?_ (fun hHeld=>?_)
 ·exact⟨HKc.out.c0,HKc.out.c1,HKc.out.c2,HKc.out.c3,HKc.out.c4⟩
 clear hK K;refine Tk 6 18 ?_;refine Tc 7 (fun K hK=>?_);go_simp;refine Th hK ?_ (fun hHeld2=>?_)
 ·(try dsimp only);go_keep
 clear hK K hHeld;have hHeld:=hHeld2;clear hHeld2;refine Tk 8 7 ?_;refine wpAnyH_done (by kernel_rfl) ?_ _;clear hHeld;go_wp2_with fail;rw[← HW9.out]
 refine bodyPost_ret (v:=.tuple #[.agg #[.int .i64 xa,.int .i64 xn,.string xs,.int .i64 xv],.bool (!h9)]) (by simp[results,Tryz.results124,go_sem,l0,l1,l2,l3]) rfl ⟨⟨xa,xn,xs,xv⟩,by rw[HO2.out],fun y h=>by have h2:=HO.out;rw[h]at h2;cases h9 <;> simp_all,HB9.out⟩
theorem stayE_right (ca:List S3) (Ca:Option Addr) (na ca9:Nat) (ba bb:Nat) (ya yn:Int) (ys:ByteArray) (yv:Int) (w:World) (hl:ca.length=na) (hn:na≤100000) (hc:w.cell? ⟨ba,2,none⟩=some (.slice Ca na ca9)) (hr:Rd w w.heap.size 3 Ca na ca9 (spsC ca)) (hC:RightC ca) (h1:1≤yn) :
  Calls Tryz.prog 124 #[.agg #[.int .i64 0,.int .i64 0,.string ⟨#[]⟩,.int .i64 0],.agg #[.int .i64 ya,.int .i64 yn,.string ys,.int .i64 yv],.pointer (some ⟨bb,0,none⟩),.pointer (some ⟨ba,0,none⟩)] w (StayE (if hasC ca ya yn=true then none else some (⟨ya,yn,ys,yv⟩:E)) w):=by
 obtain⟨h9,hh9⟩:∃ z,hasC ca ya yn=z:=⟨_,rfl⟩;rw[hh9]
 obtain⟨o9,ho9⟩:∃ o,(if h9=true then none else some (⟨ya,yn,ys,yv⟩:E))=o:=⟨_,rfl⟩
 rw[ho9];have HO:=Lib.hid ho9
 have HO2:Hid (o9.isSome = !h9):=by unfold Hid;rw[← ho9];cases h9 <;> rfl
 clear ho9
 have HHAS:Hid (∀ W,Below w.heap.size w W→Calls Tryz.prog 125 #[.slice Ca na ca9,.agg #[.int .i64 ya,.int .i64 yn]] W fun e w'=>e = .returned (.bool h9)∧Below W.heap.size W w'):=fun W hb=>by
  rw[← hh9];exact has_any ca na Ca ca9 ya yn W hl (by omega) ((hr.below hb).more hb.size) hC
 clear hl hr hC hh9
 have fy:(yn==0)=false:=by rw[beq_eq_false_iff_ne];omega
 obtain⟨W,p,y,r,HW,HP,HY,HR9,HK,HF⟩:=boxE3 w 0 0 ⟨#[]⟩ 0 ya yn ys yv
 have hpw:w.heap.size≤r:=by have:=HP.out;have:=HR9.out;omega
 have e1:¬p=r:=by have:=HR9.out;omega
 have e2:¬r=p:=by omega
 have e3:¬y=r:=by have:=HR9.out;have:=HY.out;omega
 have e4:¬r=y:=by omega
 have e5:¬p=y:=by have:=HY.out;omega
 have e6:¬y=p:=by omega
 have hlt:ba<w.heap.size:=World.block_lt_of_cell? w _ hc
 have hbp:¬ba=r:=by have:=HP.out;omega
 have hbp2:¬r=ba:=by omega
 have hc:=(HK.out.below.cell (p:=⟨ba,2,none⟩) hlt).trans hc;obtain⟨k0,k1,k2,k3,k4,k5,k6,k7,-⟩:=HK.out.cj
 have HKc:Hid (Kept [(⟨y,0,none⟩,.int .i64 ya),(⟨y,1,none⟩,.int .i64 yn),(⟨y,2,none⟩,.string ys),(⟨y,3,none⟩,.int .i64 yv),(⟨ba,2,none⟩,.slice Ca na ca9),(⟨r,0,none⟩,.int .i64 0),(⟨r,1,none⟩,.int .i64 0),(⟨r,2,none⟩,.string ⟨#[]⟩),(⟨r,3,none⟩,.int .i64 0)] w W.drew):=by
  have h0:=((Kept.nil_of HK.out.below).cons_of HK.out.t8.c3).cons_of HK.out.t8.c2;have h1:=(h0.cons_of HK.out.t8.c1).cons_of HK.out.t8.c0;exact (((((h1.cons_of hc).cons_of k7).cons_of k6).cons_of k5).cons_of k4).drew
 have HF:=Lib.hid (HF.out.drew);clear HK;go_enter Tryz.func124,Tryz.ntmps124;go_wp2_with fail;rw[← HP.out,← HW.out,← HR9.out]
 try rw[← HY.out]
 go_wp2_with fail;refine wp_region_held_drew (S:=fun W=>W.cell? ⟨y,0,none⟩=some (.int .i64 ya)∧W.cell? ⟨y,1,none⟩=some (.int .i64 yn)∧W.cell? ⟨y,2,none⟩=some (.string ys)∧W.cell? ⟨y,3,none⟩=some (.int .i64 yv)∧W.cell? ⟨ba,2,none⟩=some (.slice Ca na ca9)) (by kernel_rfl) (by go_keep) (fun hHeld=>?_);refine Tk 0 23 ?_;refine Tk 1 24 ?_;refine Tk 2 25 ?_;refine Tk 3 26 ?_;refine Tk 4 27 ?_;refine Tc 5 (fun K hK=>?_);go_simp;(go_at_call 125;refine (HHAS.out W.drew HKc.out.below).mono ?_);rintro e v1 ⟨rfl,hb9⟩;have HKc:=Lib.hid (HKc.out.later hb9);have HF:=Lib.hid (HF.out.later hb9);clear hb9;have z0:=HKc.out.tail.tail.tail.tail.tail.c0;have z1:=HKc.out.tail.tail.tail.tail.tail.c1;have z2:=HKc.out.tail.tail.tail.tail.tail.c2;have z3:=HKc.out.tail.tail.tail.tail.tail.c3;have m0:=HF.out.2 0;have m1:=HF.out.2 1
 have m2:=HF.out.2 2;have m3:=HF.out.2 3;obtain⟨W9,hW9⟩:∃ W,W=(((v1.setCell ⟨r,0,none⟩ (.int .i64 ya)).setCell ⟨r,1,none⟩ (.int .i64 yn)).setCell ⟨r,2,none⟩ (.string ys)).setCell ⟨r,3,none⟩ (.int .i64 yv):=⟨_,rfl⟩
 have HB9:Hid (Below w.heap.size w W9):=by
  unfold Hid;rw[hW9];exact (((HKc.out.below.setCell (p:=⟨r,0,none⟩) hpw _).setCell (p:=⟨r,1,none⟩) hpw _).setCell (p:=⟨r,2,none⟩) hpw _).setCell (p:=⟨r,3,none⟩) hpw _
 have l0:W9.cell? ⟨r,0,none⟩=some (.int .i64 ya):=by rw[hW9];go_simp
 have l1:W9.cell? ⟨r,1,none⟩=some (.int .i64 yn):=by rw[hW9];go_simp
 have l2:W9.cell? ⟨r,2,none⟩=some (.string ys):=by rw[hW9];go_simp
 have l3:W9.cell? ⟨r,3,none⟩=some (.int .i64 yv):=by rw[hW9];go_simp
 have HW9:=Lib.hid hW9;clear hW9;clear hHeld;refine Th hK ?_ (fun hHeld=>?_)
 ·exact⟨HKc.out.c0,HKc.out.c1,HKc.out.c2,HKc.out.c3,HKc.out.c4⟩
 clear hK K;refine Tk 6 29 ?_;refine Tc 7 (fun K hK=>?_);go_simp;refine Th hK ?_ (fun hHeld2=>?_)
 ·(try dsimp only);go_keep
 clear hK K hHeld;have hHeld:=hHeld2;clear hHeld2;refine Tk 8 7 ?_;refine wpAnyH_done (by kernel_rfl) ?_ _;clear hHeld;go_wp2_with fail;rw[← HW9.out]
 refine bodyPost_ret (v:=.tuple #[.agg #[.int .i64 ya,.int .i64 yn,.string ys,.int .i64 yv],.bool (!h9)]) (by simp[results,Tryz.results124,go_sem,l0,l1,l2,l3]) rfl ⟨⟨ya,yn,ys,yv⟩,by rw[HO2.out],fun y h=>by have h2:=HO.out;rw[h]at h2;cases h9 <;> simp_all,HB9.out⟩
theorem stayE_both (ba bb:Nat) (xa xn:Int) (xs:ByteArray) (xv:Int) (ya yn:Int) (ys:ByteArray) (yv:Int) (w:World) (h1:1≤xn) (h2:1≤yn) :
  Calls Tryz.prog 124 #[.agg #[.int .i64 xa,.int .i64 xn,.string xs,.int .i64 xv],.agg #[.int .i64 ya,.int .i64 yn,.string ys,.int .i64 yv],.pointer (some ⟨bb,0,none⟩),.pointer (some ⟨ba,0,none⟩)] w (StayE (some (grE ⟨xa,xn,xs,xv⟩ ⟨ya,yn,ys,yv⟩)) w):=by
 obtain⟨z,hz⟩:∃ z,grE ⟨xa,xn,xs,xv⟩ ⟨ya,yn,ys,yv⟩=z:=⟨_,rfl⟩
 have HG:Hid (∀ W,Calls Tryz.prog 126 #[.agg #[.int .i64 xa,.int .i64 xn,.string xs,.int .i64 xv],.agg #[.int .i64 ya,.int .i64 yn,.string ys,.int .i64 yv]] W fun e w'=>e = .returned (entV z)∧Below W.heap.size W w'):=fun W=>by
  rw[← hz];exact greater_any ⟨xa,xn,xs,xv⟩ ⟨ya,yn,ys,yv⟩ W
 rw[hz];clear hz;obtain⟨za,zn,zs,zv⟩:=z
 have fx:(xn==0)=false:=by rw[beq_eq_false_iff_ne];omega
 have fy:(yn==0)=false:=by rw[beq_eq_false_iff_ne];omega
 obtain⟨W,p,y,r,HW,HP,HY,HR9,HK,HF⟩:=boxE3 w xa xn xs xv ya yn ys yv
 have hpw:w.heap.size≤r:=by have:=HP.out;have:=HR9.out;omega
 have e1:¬p=r:=by have:=HR9.out;omega
 have e2:¬r=p:=by omega
 have e3:¬y=r:=by have:=HR9.out;have:=HY.out;omega
 have e4:¬r=y:=by omega
 have e5:¬p=y:=by have:=HY.out;omega
 have e6:¬y=p:=by omega
 obtain⟨k0,k1,k2,k3,k4,k5,k6,k7,-⟩:=HK.out.cj;go_enter Tryz.func124,Tryz.ntmps124;go_wp2_with fail;rw[← HP.out,← HW.out,← HR9.out]
 try rw[← HY.out]
 go_wp2_with fail;refine (HG.out W).mono ?_;rintro e v1 ⟨rfl,hb9⟩;have HKc:=Lib.hid (HK.out.t8.later hb9);have HF:=Lib.hid (HF.out.later hb9);clear hb9 k0 k1 k2 k3 k4 k5 k6 k7;obtain⟨z0,z1,z2,z3,-⟩:=HKc.out.cj;have m0:=HF.out.2 0;have m1:=HF.out.2 1;have m2:=HF.out.2 2;have m3:=HF.out.2 3;obtain⟨W9,hW9⟩:∃ W,W=(((v1.setCell ⟨r,0,none⟩ (.int .i64 za)).setCell ⟨r,1,none⟩ (.int .i64 zn)).setCell ⟨r,2,none⟩ (.string zs)).setCell ⟨r,3,none⟩ (.int .i64 zv):=⟨_,rfl⟩
 have HB9:Hid (Below w.heap.size w W9):=by
  unfold Hid;rw[hW9];exact (((HKc.out.below.setCell (p:=⟨r,0,none⟩) hpw _).setCell (p:=⟨r,1,none⟩) hpw _).setCell (p:=⟨r,2,none⟩) hpw _).setCell (p:=⟨r,3,none⟩) hpw _
 have l0:W9.cell? ⟨r,0,none⟩=some (.int .i64 za):=by rw[hW9];go_simp
 have l1:W9.cell? ⟨r,1,none⟩=some (.int .i64 zn):=by rw[hW9];go_simp
 have l2:W9.cell? ⟨r,2,none⟩=some (.string zs):=by rw[hW9];go_simp
 have l3:W9.cell? ⟨r,3,none⟩=some (.int .i64 zv):=by rw[hW9];go_simp
 have HW9:=Lib.hid hW9;clear hW9;go_wp2_with fail;rw[← HW9.out];refine bodyPost_ret (v:=.tuple #[.agg #[.int .i64 za,.int .i64 zn,.string zs,.int .i64 zv],.bool true]) (by simp[results,Tryz.results124,go_sem,l0,l1,l2,l3]) rfl ⟨⟨za,zn,zs,zv⟩,rfl,fun y h=>by injection h,HB9.out⟩
end Cs
end Go.Proofs.YtjpcechcefhcfaaGreat
