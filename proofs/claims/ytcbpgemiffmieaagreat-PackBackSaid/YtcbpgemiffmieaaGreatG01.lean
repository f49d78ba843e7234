/- Texts of the lower layers, and of layer 9, put together. -/
import Derived.Test.YtcbpgemiffmieaaGreatG00
import Derived.Deep.Strs
import Derived.Shelf.SlGeneric
import Derived.Shelf.SortG.Plain
import Derived.Shelf.SortG.SortNone
import Derived.Ground.SlgnProg
import Derived.Sort.OwnSortedInts
import Derived.Lib.SliceRun
import Derived.Lib.SmallJoins
import Derived.ChangeSame
import Derived.ChangeArms
import Derived.Deep.Slices
import Derived.ChangeMaps5
namespace Go.Proofs.YtcbpgemiffmieaaGreat
open Go.ChangeShapes Go.WideShapes Go.ChangeAt Go.RowKit
namespace Pk
open Tr Cx Sp Codec
def I63 (v:Int):Prop:=-9223372036854775807≤v∧v≤9223372036854775807
def NumS (bs:List UInt8) (v:Int) (rest:List UInt8) (b:Bool):Prop:=(b=false∧bs=numB v++rest∧I63 v)∨(b=true∧rest=[]∧v=0∧∀ v rest,I63 v→bs≠numB v++rest)
def TxtS (bs:List UInt8) (s:ByteArray) (rest:List UInt8) (b:Bool):Prop:=(b=false∧bs=txtB s++rest)∨(b=true∧rest=[]∧s=⟨#[]⟩∧∀ s rest,bs≠txtB s++rest)
def ManyS (bs:List UInt8) (k:Nat) (rest:List UInt8) (b:Bool):Prop:=(b=false∧bs=numB k++rest∧k≤rest.length)∨(b=true∧rest=[]∧k=0∧∀ (k:Nat) rest,k≤rest.length→bs≠numB k++rest)
section
variable {bs rest:List UInt8} {v:Int} {s:ByteArray} {k:Nat} {b:Bool}
theorem NumS.bad (h:NumS bs v rest b):b=true→rest=[]:=fun hb=>by rcases h with h | h <;> simp_all
theorem TxtS.bad (h:TxtS bs s rest b):b=true→rest=[]:=fun hb=>by rcases h with h | h <;> simp_all
theorem ManyS.bad (h:ManyS bs k rest b):b=true→rest=[]:=fun hb=>by rcases h with h | h <;> simp_all
theorem NumS.le (h:NumS bs v rest b):rest.length≤bs.length:=by
 rcases h with ⟨_,rfl,_⟩ | ⟨_,rfl,_⟩
 ·simp
 ·simp
theorem TxtS.le (h:TxtS bs s rest b):rest.length≤bs.length:=by
 rcases h with ⟨_,rfl⟩ | ⟨_,rfl,_⟩
 ·simp
 ·simp
theorem ManyS.le (h:ManyS bs k rest b):rest.length≤bs.length:=by
 rcases h with ⟨_,rfl,_⟩ | ⟨_,rfl,_⟩
 ·simp
 ·simp
end
theorem no_num {v:Int} {rest:List UInt8} : ([]:List UInt8)≠numB v++rest:=fun h=>by
 have h1:=congrArg List.length h;have h2:=numB_pos v;rw[List.length_append,List.length_nil]at h1;omega
theorem no_txt {s:ByteArray} {rest:List UInt8} : ([]:List UInt8)≠txtB s++rest:=fun h=>by
 unfold txtB at h;rw[List.append_assoc]at h;exact no_num h
theorem txt_of (s:List UInt8):txtB (strOf s)=textB s:=by
 unfold txtB textB strOf
 have h:(ByteArray.mk s.toArray).size=s.length:=by simp[ByteArray.size]
 rw[h]
theorem numS_any (bs:List UInt8) (n:Nat) (A:Option Addr) (c:Nat) (bad:Bool) (w:World) {B:Nat} (hl:bs.length=n) (hn:n≤900000) (hB:B≤w.heap.size) (hr:Rd w B 1 A n c (u8s bs)) (hb:bad=true→bs=[]) :
  Calls Tryz.prog 86 #[.agg #[.slice A n c,.bool bad],.int .i64 9223372036854775807] w fun e w'=>∃ (v:Int) (rest:List UInt8) (m:Nat) (A':Option Addr) (c':Nat) (b:Bool),e = .returned (.tuple #[.int .i64 v,.agg #[.slice A' m c',.bool b]])∧Hid (rest.length=m)∧Hid (Rd w' B 1 A' m c' (u8s rest))∧Hid (NumS bs v rest b)∧Hid (Below w.heap.size w w'):=by
 refine (rnum_any bs n A c bad 9223372036854775807 w hl hn hB hr (by omega) (by omega)).mono ?_;rintro e w' ⟨h1,⟨rfl,v,rest,A',c',h2,h3,h4,rfl,h5⟩ | ⟨h2,rfl⟩⟩
 ·exact⟨v,rest,_,A',c',false,rfl,rfl,h5,.inl ⟨rfl,h2,h3,h4⟩,h1⟩
 ·refine⟨0,[],0,none,0,true,rfl,rfl,Rd.nil _,.inr ⟨rfl,rfl,rfl,fun v rest h=>?_⟩,h1⟩
  rcases h2 with h2 | h2
  ·rw[hb h2];exact no_num
  ·exact h2 v rest h.1 h.2
theorem txtS_any (bs:List UInt8) (n:Nat) (A:Option Addr) (c:Nat) (bad:Bool) (w:World) {B:Nat} (hl:bs.length=n) (hn:n≤900000) (hB:B≤w.heap.size) (hr:Rd w B 1 A n c (u8s bs)) (hb:bad=true→bs=[]) :
  Calls Tryz.prog 88 #[.agg #[.slice A n c,.bool bad],.int .i64 9223372036854775807] w fun e w'=>∃ (s:ByteArray) (rest:List UInt8) (m:Nat) (A':Option Addr) (c':Nat) (b:Bool),e = .returned (.tuple #[.string s,.agg #[.slice A' m c',.bool b]])∧Hid (rest.length=m)∧Hid (Rd w' B 1 A' m c' (u8s rest))∧Hid (TxtS bs s rest b)∧Hid (Below w.heap.size w w'):=by
 refine (rtext_any bs n A c bad 9223372036854775807 w hl hn hB hr (by omega) (by omega)).mono ?_;rintro e w' ⟨h1,⟨rfl,s,rest,A',c',h2,h3,rfl,h5⟩ | ⟨h2,rfl⟩⟩
 ·exact⟨strOf s,rest,_,A',c',false,rfl,rfl,h5,.inl ⟨rfl,by rw[txt_of];exact h2⟩,h1⟩
 ·refine⟨⟨#[]⟩,[],0,none,0,true,rfl,rfl,Rd.nil _,.inr ⟨rfl,rfl,rfl,fun s rest h=>?_⟩,h1⟩
  rcases h2 with h2 | h2
  ·rw[hb h2]at h;exact no_txt h
  ·have e1:txtB s=textB s.data.toList:=by unfold txtB textB;rw[text_len]
   refine h2 s.data.toList rest ?_ (by rw[← e1];exact h);have h3:=congrArg List.length h;rw[List.length_append]at h3;have h4:=txt_ge s
   have e2:s.data.toList.length=s.size:=by simp
   omega
set_option maxRecDepth 100000 in
set_option maxHeartbeats 1000000 in
theorem bad_any16 (w:World):Calls Tryz.prog 76 #[] w fun e w'=>e = .returned (.agg #[.slice none 0 0,.bool true])∧Hid (Below w.heap.size w w'):=by
 go_enter Tryz.func76,Tryz.ntmps76;go_wp2;exact bodyPost_ret (v:=.agg #[.slice none 0 0,.bool true]) (by simp[results,Tryz.results76,go_sem]) rfl ⟨rfl,Dt.box_below _ _ _⟩
theorem boxI (w:World) (A:Option Addr) (n c:Nat) (b:Bool):∃ (W:World) (g:Nat),Hid (W=w.alloc (.cells #[.slice A n c,.bool b] 51))∧Hid (g=w.heap.size)∧Hid (Kept [(⟨g,0,none⟩,.slice A n c),(⟨g,1,none⟩,.bool b)] w W)∧Hid (Free g W)∧Hid (W.heap.size=g+1):=by
 refine⟨_,_,rfl,rfl,?_,⟨by simp,fun j=>by go_simp⟩,by unfold Hid;simp⟩;have h0:=Kept.nil_of (Dt.box_below w #[.slice A n c,.bool b] 51)
 refine (h0.cons_of ?_).cons_of ?_ <;> go_simp
set_option maxRecDepth 100000 in
set_option maxHeartbeats 4000000 in
theorem many_any (bs:List UInt8) (n:Nat) (A:Option Addr) (c:Nat) (bad:Bool) (w:World) {B:Nat} (hl:bs.length=n) (hn:n≤900000) (hB:B≤w.heap.size) (hr:Rd w B 1 A n c (u8s bs)) (hb:bad=true→bs=[]) :
  Calls Tryz.prog 85 #[.agg #[.slice A n c,.bool bad]] w fun e w'=>∃ (k:Nat) (rest:List UInt8) (m:Nat) (A':Option Addr) (c':Nat) (b:Bool),e = .returned (.tuple #[.int .i64 k,.agg #[.slice A' m c',.bool b]])∧Hid (rest.length=m)∧Hid (Rd w' B 1 A' m c' (u8s rest))∧Hid (ManyS bs k rest b)∧Hid (Below w.heap.size w w'):=by
 obtain⟨W,g,HW,HG,HK,HF,HZ⟩:=boxI w A n c bad;obtain⟨W1,r,HW1,HR,HK1,HF1,HZ1⟩:=boxI W none 0 0 false;have hb1:=HK1.out.below;have HK:=Lib.hid (HK.out.later hb1);have HF:=Lib.hid (HF.out.later hb1)
 have hgr:¬g=r:=by have h1:=HR.out;have h2:=HZ.out;omega
 have hrg:¬r=g:=fun h=>hgr h.symm
 have hgw:w.heap.size≤g:=by have:=HG.out;omega
 have hrw:w.heap.size≤r:=by have h1:=HR.out;have h2:=HZ.out;have h3:=HG.out;omega
 have hB1:B≤W1.heap.size:=Nat.le_trans hB HK.out.below.size;have HC:=Lib.hid (numS_any bs n A c bad W1 hl hn hB1 (hr.below (HK.out.below.mono hB)) hb);have HBB:=Lib.hid hB;have HL:=Lib.hid hl;have k0:=HK.out.c0;have k1:=HK.out.c1;clear hl hr hb hb1 hB hB1;go_enter Tryz.func85,Tryz.ntmps85;go_wp2_with fail
 have HR2:Hid (r=g+1):=by unfold Hid;have h1:=HR.out;have h2:=HZ.out;omega
 rw[← HG.out,← HR2.out,← HW.out,← HW1.out];refine HC.out.mono ?_;rintro e w2 ⟨v,rest,m,A2,c2,b2,rfl,hm,hrd,hS,hb2⟩;have HK2:=Lib.hid (HK.out.later hb2.out);have HFg:=Lib.hid (HF.out.later hb2.out);have HFr:=Lib.hid (HF1.out.later hb2.out);have HKr:=Lib.hid (HK1.out.later hb2.out);have f0:=HFg.out.2 0;have f1:=HFg.out.2 1;have k0:=HK2.out.c0;have k1:=HK2.out.c1;have hBg:B≤g:=Nat.le_trans HBB.out hgw;obtain⟨W3,hW3⟩:∃ W,W=(w2.setCell ⟨g,0,none⟩ (.slice A2 m c2)).setCell ⟨g,1,none⟩ (.bool b2):=⟨_,rfl⟩
 have HK3:Hid (Kept [(⟨g,0,none⟩,.slice A2 m c2),(⟨g,1,none⟩,.bool b2)] w W3):=by
  have h1:=((Kept.nil_of HK2.out.below).set (a:=⟨g,0,none⟩) hgw (by simp) (.slice A2 m c2)).set (a:=⟨g,1,none⟩) hgw (by simp) (.bool b2);rw[← hW3]at h1
  refine (h1.cons_of ?_).cons_of ?_ <;> (rw[hW3];go_simp)
 have HF3:Hid (Free r W3):=by unfold Hid;rw[hW3];exact (HFr.out.set _ _).set _ _
 have HRD3:Hid (Rd W3 B 1 A2 m c2 (u8s rest)):=by
  unfold Hid;rw[hW3];exact hrd.out.below (((Below.refl B w2).setCell (p:=⟨g,0,none⟩) hBg _).setCell (p:=⟨g,1,none⟩) hBg _)
 have r0:W3.cell? ⟨r,0,none⟩=some (.slice none 0 0):=by have h1:=HKr.out.c0;rw[hW3];go_simp
 have r1:W3.cell? ⟨r,1,none⟩=some (.bool false):=by have h1:=HKr.out.c1;rw[hW3];go_simp
 have HRC:Hid (∀ w4,Below W3.heap.size W3 w4→w4.cell? ⟨r,0,none⟩=some (.slice none 0 0)∧w4.cell? ⟨r,1,none⟩=some (.bool false)):=fun w4 h=>⟨(h.cell (p:=⟨r,0,none⟩) HF3.out.1).trans r0,(h.cell (p:=⟨r,1,none⟩) HF3.out.1).trans r1⟩;have hm2:=hm.out;have hle:=hS.out.le;have HM:=Lib.hid hm2;have HW3:=Lib.hid hW3
 have hmi:(m:Int)≤900000:=by have:=HL.out;omega
 clear hW3 hb2 hm hrd HC HK HF HK1 HF1 hm2 hle r0 r1
 rcases hS.out with ⟨rfl,he,hi⟩ | ⟨rfl,rfl,rfl,hno⟩
 ·by_cases h1:v<0
  ·have f5:decide (v<0)=true:=by simpa using h1
   have HNO:Hid (∀ (k:Nat) rest,k≤rest.length→bs≠numB k++rest):=fun k rest _ h=>by
    rw[he]at h;have:=(numB_prefix h).1;omega
   clear hS he hi;go_wp2_with fail;rw[← HW3.out];refine (bad_any16 W3).mono ?_;rintro e w4 ⟨rfl,hb4⟩;have HF4:=Lib.hid (HF3.out.later hb4.out);have HZ4:=Lib.hid (HK3.out.later hb4.out);have f0:=HF4.out.2 0;have f1:=HF4.out.2 1;obtain⟨z0,z1⟩:=HRC.out w4 hb4.out;obtain⟨W5,hW5⟩:∃ W,W=(w4.setCell ⟨r,0,none⟩ (.slice none 0 0)).setCell ⟨r,1,none⟩ (.bool true):=⟨_,rfl⟩
   have l0:W5.cell? ⟨r,0,none⟩=some (.slice none 0 0):=by rw[hW5];go_simp
   have l1:W5.cell? ⟨r,1,none⟩=some (.bool true):=by rw[hW5];go_simp
   have HB5:Hid (Below w.heap.size w W5):=by unfold Hid;rw[hW5];exact (HZ4.out.below.setCell (p:=⟨r,0,none⟩) hrw _).setCell (p:=⟨r,1,none⟩) hrw _
   have HW5:=Lib.hid hW5;clear hb4 hW5;go_wp2;rw[← HW5.out];exact bodyPost_ret (v:=.tuple #[.int .i64 0,.agg #[.slice none 0 0,.bool true]]) (by simp[results,Tryz.results85,go_sem,l0,l1]) rfl ⟨0,[],0,none,0,true,rfl,rfl,Rd.nil _,.inr ⟨rfl,rfl,rfl,HNO.out⟩,HB5.out⟩
  ·have f5:decide (v<0)=false:=by simpa using h1
   by_cases h2:(m:Int)<v
   ·have f6:decide ((m:Int)<v)=true:=by simpa using h2
    have HNO:Hid (∀ (k:Nat) rest,k≤rest.length→bs≠numB k++rest):=fun k rest' h3 h=>by
     rw[he]at h;obtain⟨h4,h5⟩:=numB_prefix h;have h6:=HM.out;rw[h5]at h6;omega
    clear hS he hi;go_wp2_with fail;rw[← HW3.out];refine (bad_any16 W3).mono ?_;rintro e w4 ⟨rfl,hb4⟩;have HF4:=Lib.hid (HF3.out.later hb4.out);have HZ4:=Lib.hid (HK3.out.later hb4.out);have f0:=HF4.out.2 0;have f1:=HF4.out.2 1;obtain⟨z0,z1⟩:=HRC.out w4 hb4.out;obtain⟨W5,hW5⟩:∃ W,W=(w4.setCell ⟨r,0,none⟩ (.slice none 0 0)).setCell ⟨r,1,none⟩ (.bool true):=⟨_,rfl⟩
    have l0:W5.cell? ⟨r,0,none⟩=some (.slice none 0 0):=by rw[hW5];go_simp
    have l1:W5.cell? ⟨r,1,none⟩=some (.bool true):=by rw[hW5];go_simp
    have HB5:Hid (Below w.heap.size w W5):=by unfold Hid;rw[hW5];exact (HZ4.out.below.setCell (p:=⟨r,0,none⟩) hrw _).setCell (p:=⟨r,1,none⟩) hrw _
    have HW5:=Lib.hid hW5;clear hb4 hW5;go_wp2;rw[← HW5.out];exact bodyPost_ret (v:=.tuple #[.int .i64 0,.agg #[.slice none 0 0,.bool true]]) (by simp[results,Tryz.results85,go_sem,l0,l1]) rfl ⟨0,[],0,none,0,true,rfl,rfl,Rd.nil _,.inr ⟨rfl,rfl,rfl,HNO.out⟩,HB5.out⟩
   ·have f6:decide ((m:Int)<v)=false:=by simpa using h2
    obtain⟨k,rfl⟩:∃ k:Nat,v=(k:Int):=⟨v.toNat,by omega⟩;have HS:Hid (ManyS bs k rest false):=.inl ⟨rfl,he,by have:=HM.out;omega⟩;have g0:=HF3.out.2 0;have g1:=HF3.out.2 1;have j0:=HK3.out.c0;have j1:=HK3.out.c1;obtain⟨z0,z1⟩:=HRC.out W3 (Below.refl _ _);clear hS he hi;obtain⟨W5,hW5⟩:∃ W,W=(W3.setCell ⟨r,0,none⟩ (.slice A2 m c2)).setCell ⟨r,1,none⟩ (.bool false):=⟨_,rfl⟩
    have l0:W5.drew.cell? ⟨r,0,none⟩=some (.slice A2 m c2):=by rw[hW5];go_simp
    have l1:W5.drew.cell? ⟨r,1,none⟩=some (.bool false):=by rw[hW5];go_simp
    have HB5:Hid (Below w.heap.size w W5.drew):=by unfold Hid;rw[hW5];exact ((HK3.out.below.setCell (p:=⟨r,0,none⟩) hrw _).setCell (p:=⟨r,1,none⟩) hrw _).drew
    have HRD5:Hid (Rd W5.drew B 1 A2 m c2 (u8s rest)):=by
     unfold Hid;have hBr:B≤r:=Nat.le_trans HBB.out hrw;rw[hW5];exact HRD3.out.below ((((Below.refl B W3).setCell (p:=⟨r,0,none⟩) hBr _).setCell (p:=⟨r,1,none⟩) hBr _).drew)
    have HW5:=Lib.hid hW5;clear hW5;go_wp2_with fail;rw[← HW3.out]
    go_region
    all_goals
     go_wp2;rw[← HW5.out];exact bodyPost_ret (v:=.tuple #[.int .i64 k,.agg #[.slice A2 m c2,.bool false]]) (by simp[results,Tryz.results85,go_sem,l0,l1]) rfl ⟨k,rest,m,A2,c2,false,rfl,HM.out,HRD5.out,HS.out,HB5.out⟩
 ·have HNO:Hid (∀ (k:Nat) rest,k≤rest.length→bs≠numB k++rest):=fun k rest h3 h=>by
   have h4:=congrArg List.length h;rw[List.length_append]at h4;have h5:=HL.out;exact hno k rest ⟨by omega,by omega⟩ h
  clear hS hno;go_wp2_with fail;rw[← HW3.out];refine (bad_any16 W3).mono ?_;rintro e w4 ⟨rfl,hb4⟩;have HF4:=Lib.hid (HF3.out.later hb4.out);have HZ4:=Lib.hid (HK3.out.later hb4.out);have f0:=HF4.out.2 0;have f1:=HF4.out.2 1;obtain⟨z0,z1⟩:=HRC.out w4 hb4.out;obtain⟨W5,hW5⟩:∃ W,W=(w4.setCell ⟨r,0,none⟩ (.slice none 0 0)).setCell ⟨r,1,none⟩ (.bool true):=⟨_,rfl⟩
  have l0:W5.cell? ⟨r,0,none⟩=some (.slice none 0 0):=by rw[hW5];go_simp
  have l1:W5.cell? ⟨r,1,none⟩=some (.bool true):=by rw[hW5];go_simp
  have HB5:Hid (Below w.heap.size w W5):=by unfold Hid;rw[hW5];exact (HZ4.out.below.setCell (p:=⟨r,0,none⟩) hrw _).setCell (p:=⟨r,1,none⟩) hrw _
  have HW5:=Lib.hid hW5;clear hb4 hW5;go_wp2;rw[← HW5.out];exact bodyPost_ret (v:=.tuple #[.int .i64 0,.agg #[.slice none 0 0,.bool true]]) (by simp[results,Tryz.results85,go_sem,l0,l1]) rfl ⟨0,[],0,none,0,true,rfl,rfl,Rd.nil _,.inr ⟨rfl,rfl,rfl,HNO.out⟩,HB5.out⟩
end Pk
end Go.Proofs.YtcbpgemiffmieaaGreat
namespace Go.Proofs.YtcbpgemiffmieaaGreat
namespace Pk
open Tr Cx Sp
theorem right_spI63 {c:List S3} (h:RightC c) {s:S3} (hs:s∈c):I63 s.1∧I63 s.2.1∧I63 s.2.2:=by
 obtain⟨h1,h2,h3⟩:=right_sp h hs;exact⟨⟨by omega,by omega⟩,⟨by omega,by omega⟩,⟨by omega,by omega⟩⟩
def RS (bs:List UInt8) (k:Nat) (x0 x1 x2:Int) (rest:List UInt8) (b:Bool):Prop:=
 (b=false∧bs=([x0,x1,x2].take k).flatMap numB++rest)∨(b=true∧rest=[]∧∀ y0 y1 y2 x,I63 y0→I63 y1→I63 y2→bs≠numB y0++numB y1++numB y2++x)
theorem RS.zero (bs:List UInt8) (b:Bool) (hb:b=true→bs=[]) (x0 x1 x2:Int):RS bs 0 x0 x1 x2 bs b:=by
 cases b with
 | false=>exact .inl ⟨rfl,rfl⟩
 | true=>
  refine .inr ⟨rfl,hb rfl,fun y0 y1 y2 x _ _ _=>?_⟩;rw[hb rfl,List.append_assoc,List.append_assoc];exact no_num
theorem RS.one {bs rest r2:List UInt8} {b c:Bool} {x0 x1 x2 v:Int} (h:RS bs 0 x0 x1 x2 rest b) (hn:NumS rest v r2 c):RS bs 1 v x1 x2 r2 c:=by
 rcases h with ⟨_,h⟩ | ⟨_,h1,h2⟩
 ·have h:bs=rest:=by simpa using h
  rcases hn with ⟨rfl,h3,_⟩ | ⟨rfl,rfl,_,h3⟩
  ·exact .inl ⟨rfl,by rw[h,h3];simp⟩
  ·refine .inr ⟨rfl,rfl,fun y0 y1 y2 x a0 _ _ e=>?_⟩
   rw[h,List.append_assoc,List.append_assoc]at e;exact h3 _ _ a0 e
 ·rcases hn with ⟨rfl,h3,_⟩ | ⟨rfl,rfl,_,_⟩
  ·rw[h1]at h3;exact absurd h3 no_num
  ·exact .inr ⟨rfl,rfl,h2⟩
theorem RS.two {bs rest r2:List UInt8} {b c:Bool} {x0 x1 x2 v:Int} (h:RS bs 1 x0 x1 x2 rest b) (hn:NumS rest v r2 c):RS bs 2 x0 v x2 r2 c:=by
 rcases h with ⟨_,h⟩ | ⟨_,h1,h2⟩
 ·have h:bs=numB x0++rest:=by simpa using h
  rcases hn with ⟨rfl,h3,_⟩ | ⟨rfl,rfl,_,h3⟩
  ·exact .inl ⟨rfl,by rw[h,h3];simp⟩
  ·refine .inr ⟨rfl,rfl,fun y0 y1 y2 x _ a1 _ e=>?_⟩
   rw[h,List.append_assoc,List.append_assoc]at e;obtain⟨_,e⟩:=numB_prefix e;exact h3 _ _ a1 e
 ·rcases hn with ⟨rfl,h3,_⟩ | ⟨rfl,rfl,_,_⟩
  ·rw[h1]at h3;exact absurd h3 no_num
  ·exact .inr ⟨rfl,rfl,h2⟩
theorem RS.three {bs rest r2:List UInt8} {b c:Bool} {x0 x1 x2 v:Int} (h:RS bs 2 x0 x1 x2 rest b) (hn:NumS rest v r2 c):RS bs 3 x0 x1 v r2 c:=by
 rcases h with ⟨_,h⟩ | ⟨_,h1,h2⟩
 ·have h:bs=numB x0++(numB x1++rest):=by simpa using h
  rcases hn with ⟨rfl,h3,_⟩ | ⟨rfl,rfl,_,h3⟩
  ·exact .inl ⟨rfl,by rw[h,h3];simp⟩
  ·refine .inr ⟨rfl,rfl,fun y0 y1 y2 x _ _ a2 e=>?_⟩
   rw[h,List.append_assoc,List.append_assoc]at e;obtain⟨_,e⟩:=numB_prefix e;obtain⟨_,e⟩:=numB_prefix e;exact h3 _ _ a2 e
 ·rcases hn with ⟨rfl,h3,_⟩ | ⟨rfl,rfl,_,_⟩
  ·rw[h1]at h3;exact absurd h3 no_num
  ·exact .inr ⟨rfl,rfl,h2⟩
theorem RS.bad {bs rest:List UInt8} {b:Bool} {k:Nat} {x0 x1 x2:Int} (h:RS bs k x0 x1 x2 rest b):b=true→rest=[]:=fun hb=>by rcases h with h | h <;> simp_all
theorem RS.le {bs rest:List UInt8} {b:Bool} {k:Nat} {x0 x1 x2:Int} (h:RS bs k x0 x1 x2 rest b):rest.length≤bs.length:=by
 rcases h with ⟨_,rfl⟩ | ⟨_,rfl,_⟩
 ·simp
 ·simp
def OS (bs:List UInt8) (K:Nat) (ps:List S3) (rest:List UInt8) (b:Bool):Prop:=
 (b=false∧bs=numB K++ps.flatMap spB++rest)∨(b=true∧rest=[]∧∀ c x,RightC c→bs≠ctxB c++x)
theorem OS.zero {bs rest:List UInt8} {K:Nat} {b:Bool} (h:ManyS bs K rest b):OS bs K [] rest b:=by
 rcases h with ⟨rfl,h,_⟩ | ⟨rfl,rfl,_,h⟩
 ·exact .inl ⟨rfl,by simpa using h⟩
 ·refine .inr ⟨rfl,rfl,fun c x hc e=>?_⟩
  unfold ctxB listB at e;rw[List.append_assoc]at e;refine h c.length _ ?_ e
  have h1:=list_len (f:=spB) (l:=c) fun s _=>by
   unfold spB;have:=numB_pos s.1;simp only[List.length_append];omega
  rw[List.length_append];omega
theorem OS.step {bs rest r2:List UInt8} {K:Nat} {b c:Bool} {ps:List S3} {x0 x1 x2:Int} (h:OS bs K ps rest b) (hk:ps.length<K) (hb:b=true→rest=[]) (hr:RS rest 3 x0 x1 x2 r2 c):OS bs K (ps++[(x0,x1,x2)]) r2 c:=by
 rcases h with ⟨rfl,h⟩ | ⟨rfl,h1,h2⟩
 ·rcases hr with ⟨rfl,h3⟩ | ⟨rfl,rfl,h3⟩
  ·refine .inl ⟨rfl,?_⟩
   rw[h,h3];simp[spB,List.append_assoc]
  ·refine .inr ⟨rfl,rfl,fun l x hl e=>?_⟩
   unfold ctxB listB at e;rw[h,List.append_assoc,List.append_assoc]at e;obtain⟨e1,e⟩:=numB_prefix e;obtain⟨m,hm,e⟩:=seq_cut (fun a=>pre_sp a) (by omega:ps.length≤l.length) e.symm
   cases m with
   | nil=>
    rw[List.append_nil]at hm;rw[hm]at e1;omega
   | cons y m=>
    have hy:=right_spI63 hl (s:=y) (by rw[hm];simp);rw[List.flatMap_cons]at e;unfold spB at e;rw[List.append_assoc]at e;exact h3 _ _ _ _ hy.1 hy.2.1 hy.2.2 e
 ·rcases hr with ⟨rfl,h3⟩ | ⟨rfl,rfl,h3⟩
  ·rw[h1]at h3
   have h3:([]:List UInt8)=numB x0++(numB x1++(numB x2++r2)):=by simpa using h3
   exact absurd h3 no_num
  ·exact .inr ⟨rfl,rfl,h2⟩
def CtxS (bs:List UInt8) (c:List S3) (rest:List UInt8) (b:Bool):Prop:=(b=false∧bs=ctxB c++rest∧RightC c)∨(b=true∧rest=[]∧c=[]∧∀ c x,RightC c→bs≠ctxB c++x)
theorem OS.all {bs rest:List UInt8} {K:Nat} {ps:List S3} (h:OS bs K ps rest false) (hk:ps.length=K):bs=ctxB ps++rest:=by
 rcases h with ⟨_,h⟩ | ⟨h,_⟩
 ·rw[h];unfold ctxB listB;rw[hk]
 ·cases h
theorem OS.no {bs rest:List UInt8} {K:Nat} {ps:List S3} (h:OS bs K ps rest false) (hk:ps.length=K) (hr:¬RightC ps):∀ c x,RightC c→bs≠ctxB c++x:=fun c x hc e=>by
 rw[h.all hk]at e;obtain⟨e1,_⟩:=pre_ctx _ _ _ _ e;rw[e1]at hr;exact hr hc
theorem OS.bad {bs rest:List UInt8} {K:Nat} {ps:List S3} (h:OS bs K ps rest true):∀ c x,RightC c→bs≠ctxB c++x:=by
 rcases h with ⟨h,_⟩ | ⟨_,_,h⟩
 ·cases h
 ·exact h
theorem OS.rest {bs rest:List UInt8} {K:Nat} {ps:List S3} {b:Bool} (h:OS bs K ps rest b):b=true→rest=[]:=fun hb=>by rcases h with h | h <;> simp_all
theorem OS.le {bs rest:List UInt8} {K:Nat} {ps:List S3} {b:Bool} (h:OS bs K ps rest b):rest.length≤bs.length:=by
 rcases h with ⟨_,rfl⟩ | ⟨_,rfl,_⟩
 ·simp
  omega
 ·simp
end Pk
end Go.Proofs.YtcbpgemiffmieaaGreat
namespace Go.Proofs.YtcbpgemiffmieaaGreat
open Go.ChangeShapes Go.WideShapes Go.ChangeAt Go.RowKit
namespace Pk
open Tr Cx Sp Rw Codec
structure StI (w:World) (g:Nat) (A:Option Addr) (n c:Nat) (b:Bool) (wr:World):Prop where
 kept:Kept [(⟨g,0,none⟩,.slice A n c),(⟨g,1,none⟩,.bool b),(⟨g+1,0,none⟩,.slice none 0 0),(⟨g+1,1,none⟩,.bool false)] w wr
 fg:Free g wr
 fr:Free (g+1) wr
 gw:w.heap.size≤g
namespace StI
variable {w wr w':World} {g n c n' c':Nat} {A A':Option Addr} {b b':Bool}
theorem later (h:StI w g A n c b wr) (hb:Below wr.heap.size wr w'):StI w g A n c b w':=⟨h.kept.later hb,h.fg.later hb,h.fr.later hb,h.gw⟩
theorem low (h:StI w g A n c b wr) (hb:Below (g+2) wr w'):StI w g A n c b w':=by
 have hgw:=h.gw;refine⟨⟨h.kept.1.trans (hb.mono (by omega)),fun x hx=>?_⟩,⟨Nat.lt_of_lt_of_le h.fg.1 hb.size,fun j=>(hb.frozen (p:=⟨g,j,none⟩) (show g<g+2 by omega)).trans (h.fg.2 j)⟩,⟨Nat.lt_of_lt_of_le h.fr.1 hb.size,fun j=>(hb.frozen (p:=⟨g+1,j,none⟩) (show g+1<g+2 by omega)).trans (h.fr.2 j)⟩,hgw⟩;obtain⟨h1,h2⟩:=h.kept.2 x hx;refine⟨Nat.lt_of_lt_of_le h1 hb.size,(hb.cell (p:=x.1) ?_).trans h2⟩;simp only[List.mem_cons,List.not_mem_nil,or_false]at hx
 rcases hx with rfl | rfl | rfl | rfl <;> (dsimp only;omega)
theorem put (h:StI w g A n c b wr) (A':Option Addr) (n' c':Nat) (b':Bool):StI w g A' n' c' b' ((wr.setCell ⟨g,0,none⟩ (.slice A' n' c')).setCell ⟨g,1,none⟩ (.bool b')):=by
 obtain⟨k0,k1,k2,k3,-⟩:=h.kept.cj;have hgw:=h.gw;have h1:=((Kept.nil_of h.kept.below).set (a:=⟨g,0,none⟩) hgw (by simp) (.slice A' n' c')).set (a:=⟨g,1,none⟩) hgw (by simp) (.bool b')
 have hne:¬g+1=g:=by omega
 have hne2:¬g=g+1:=by omega
 refine⟨(((h1.cons_of ?_).cons_of ?_).cons_of ?_).cons_of ?_,(h.fg.set _ _).set _ _,(h.fr.set _ _).set _ _,hgw⟩ <;> go_simp
theorem other (h:StI w g A n c b wr) {q:Nat} (hq:g+2≤q) (j:Nat) (u:Value):StI w g A n c b (wr.setCell ⟨q,j,none⟩ u):=h.low ((Below.refl _ _).setCell (p:=⟨q,j,none⟩) hq u)
end StI
theorem gb_new {w wr:World} {row:Option Nat} (h:w.grownBy wr row) {q:Nat} (hq:w.heap.size≤q) (j:Nat) (u:Value):w.grownBy (wr.setCell ⟨q,j,none⟩ u) row:=
 ⟨h.os,h.tape,h.output,by simpa [World.setCell] using h.size,fun i hi hne=>(Below.heap_setCell wr ⟨q,j,none⟩ u i (by dsimp only;omega)).trans (h.block i hi hne)⟩
theorem own_gb {w w':World} {base:Nat} {e:TypeId} {sz n c:Nat} {A:Option Addr} {xs:List Value} (h:Own w base e sz A n c xs) {g:Nat} (hg:w.grownBy w' (some g)) (hb:g<base):Own w' base e sz A n c xs:=by
 refine⟨h.row.kept hg ?_,h.one⟩
 cases hv:Value.ownBlock (.slice A n c)with
 | none=>exact .inl rfl
 | some k=>
  refine .inr fun e=>?_;injection e with e;have:=(h.row.lt k hv).1;omega
end Pk
end Go.Proofs.YtcbpgemiffmieaaGreat
namespace Go.Proofs.YtcbpgemiffmieaaGreat
open Go.ChangeShapes Go.WideShapes Go.ChangeAt Go.RowKit
namespace Sp
theorem ret_bool {a b:Bool} (h:a=b):Ending.returned (.bool a) = .returned (.bool b):=by rw[h]
theorem ret_int {a b:Int} (h:a=b):Ending.returned (.int .i64 a) = .returned (.int .i64 b):=by rw[h]
theorem drop_at {l:List (Int×Int)} {k:Nat} (hk:k<l.length) {r:Int×Int} (hr:r=l[k]):l.drop k=r::l.drop (k+1):=by rw[hr];exact List.drop_eq_getElem_cons hk
theorem rightB_of {l:List (Int×Int)} {P:Prop} (h:RightF 1 l↔P) {b:Bool} (hb:b=true↔P):b=rightB l:=by
 unfold rightB
 cases b with
 | true=>simp only[true_iff]at hb;simp[h.2 hb]
 | false=>
  have:¬P:=fun hp=>by have:=hb.2 hp;cases this
  simp[h,this]
set_option maxRecDepth 100000 in
set_option maxHeartbeats 1000000 in
theorem right_any (l:List (Int×Int)) (n:Nat) (A:Option Addr) (c:Nat) (w:World) (hl:l.length=n) (hn:n≤1000000) (hr:Rd w w.heap.size 2 A n c (runsC l)) :
  Calls Tryz.prog 126 #[.slice A n c] w fun e w'=>e = .returned (.bool (rightB l))∧Below w.heap.size w w':=by
 have HR:=Lib.hid hr;have HL:=Lib.hid hl;clear hr hl;go_enter Tryz.func126,Tryz.ntmps126;go_wp2
 go_loopw [3,8] (fun h i wr=>∃ (k:Nat) (m:Int),k≤n∧h = .int .i64 m∧i = .int .i64 k∧Hid (1≤m∧m≤1099511627778)∧Hid (RightF 1 l↔RightF m (l.drop k))∧Hid (Below w.heap.size w wr)) (fun _ i _=>n-(intOf i).toNat)
 case atStart=>exact⟨0,1,by omega,rfl,rfl,⟨by omega,by omega⟩,Iff.rfl,Below.refl _ _⟩
 case round=>
  obtain⟨k,m,hk,rfl,rfl,HM,HI,HB⟩:=hrel
  by_cases hlt:k<n
  ·have hkl:k<l.length:=by rw[HL.out];exact hlt
   obtain⟨b,o,rfl,hbl,hc⟩:=rd_run HR.out HL.out hlt;obtain⟨q0,q1⟩:=hc k hkl;obtain⟨p,hp⟩:∃ p,p=l[k]:=⟨_,rfl⟩;have HD:=Lib.hid (drop_at hkl hp);rw[← hp]at q0 q1;obtain⟨x,y⟩:=p;have q0:=(HB.out.cell (p:=⟨b,o+k*2,none⟩) hbl).trans q0;have q1:=(HB.out.cell (p:=⟨b,o+k*2+1,none⟩) hbl).trans q1;have HB2:=Lib.hid (HB.out.alloc HB.out.size (.cells #[.int .i64 x,.int .i64 y] 184));clear hc hp
   by_cases h1:x<m
   ·have f1:decide (x<m)=true:=by simpa using h1
    have HE:Hid (false=rightB l):=rightB_of HI.out (by rw[HD.out];simp only[Bool.false_eq_true,RightF,false_iff];omega);go_wp2;go_ret;exact⟨ret_bool HE.out,HB2.out⟩
   ·have f1:decide (x<m)=false:=by simpa using h1
    by_cases h2:y<x
    ·have f2:decide (y<x)=true:=by simpa using h2
     have HE:Hid (false=rightB l):=rightB_of HI.out (by rw[HD.out];simp only[Bool.false_eq_true,RightF,false_iff];omega);go_wp2;go_ret;exact⟨ret_bool HE.out,HB2.out⟩
    ·have f2:decide (y<x)=false:=by simpa using h2
     by_cases h3:1099511627776<y
     ·have f3:decide (1099511627776<y)=true:=by simpa using h3
      have HE:Hid (false=rightB l):=rightB_of HI.out (by rw[HD.out];simp only[Bool.false_eq_true,RightF,false_iff];omega);go_wp2;go_ret;exact⟨ret_bool HE.out,HB2.out⟩
     ·have f3:decide (1099511627776<y)=false:=by simpa using h3
      have HI2:Hid (RightF 1 l↔RightF (y+2) (l.drop (k+1))):=by
       refine Iff.trans HI.out ?_;rw[HD.out];simp only[RightF];exact⟨fun h=>h.2.2.2,fun h=>⟨by omega,by omega,by omega,h⟩⟩
      have hm:=HM.out.1;go_wp2;go_roundw
      case rel=>exact⟨k+1,y+2,by omega,by go_num,by go_num,⟨by omega,by omega⟩,HI2.out,HB2.out⟩
      case measure=>simp[intOf];omega
  ·have HE:Hid (true=rightB l):=rightB_of HI.out (by rw[List.drop_eq_nil_of_le (by rw[HL.out];omega)];simp[RightF])
   go_wp2;go_ret;exact⟨ret_bool HE.out,HB.out⟩
theorem edge_div {l:List (Int×Int)} {i:Nat} (h:i<2*l.length):(i % 2=0∧∃ hk:i / 2<l.length,edge l i=l[i / 2].1)∨(i % 2=1∧∃ hk:i / 2<l.length,edge l i=l[i / 2].2+1):=by
 have hk:i / 2<l.length:=by omega
 rcases Nat.mod_two_eq_zero_or_one i with h0 | h0
 ·have e:i=2*(i / 2):=by omega
  exact .inl ⟨h0,hk,by have:=edge_even hk;rwa [← e]at this⟩
 ·have e:i=2*(i / 2)+1:=by omega
  exact .inr ⟨h0,hk,by have:=edge_odd hk;rwa [← e]at this⟩
set_option maxHeartbeats 400000 in
theorem edge_any (l:List (Int×Int)) (n:Nat) (A:Option Addr) (c:Nat) (w:World) (hl:l.length=n) (hn:n≤1000000) (hr:Rd w w.heap.size 2 A n c (runsC l)) (hR:RightF 1 l) (i:Nat) (hi:i≤2*n) :
  Calls Tryz.prog 166 #[.slice A n c,.int .i64 i] w fun e w'=>e = .returned (.int .i64 (edge l i))∧w'=w:=by
 by_cases h:i<2*l.length
 ·have hb:=edge_ge hR h
  rcases edge_div h with ⟨h0,hk,he⟩ | ⟨h0,hk,he⟩
  ·obtain⟨b,o,rfl,hbl,hc⟩:=rd_run hr hl (k:=i / 2) (by omega)
   obtain⟨q0,q1⟩:=hc (i / 2) hk;rw[← he]at q0;obtain⟨x,hx⟩:∃ x,x=edge l i:=⟨_,rfl⟩;rw[← hx]at q0 ⊢
   have f1:decide (2*(n:Int)≤i)=false:=by simp;omega
   have f2:((i:Int).tmod 2)=0:=by rw[Int.tmod_eq_emod_of_nonneg (by omega)];omega
   have f3:((i:Int).tdiv 2)=((i / 2:Nat):Int):=by rw[Int.tdiv_eq_ediv_of_nonneg (by omega)];omega
   have hdn:i / 2<n:=by omega
   clear hc q1 he hx;go_enter Tryz.func166,Tryz.ntmps166;go_wp2;go_ret;exact⟨rfl,rfl⟩
  ·obtain⟨b,o,rfl,hbl,hc⟩:=rd_run hr hl (k:=i / 2) (by omega)
   obtain⟨q0,q1⟩:=hc (i / 2) hk;rw[he]at hb ⊢;obtain⟨x,hx⟩:∃ x,x=l[i / 2].2:=⟨_,rfl⟩;rw[← hx]at q1 hb ⊢
   have f1:decide (2*(n:Int)≤i)=false:=by simp;omega
   have f2:((i:Int).tmod 2)=1:=by rw[Int.tmod_eq_emod_of_nonneg (by omega)];omega
   have f3:((i:Int).tdiv 2)=((i / 2:Nat):Int):=by rw[Int.tdiv_eq_ediv_of_nonneg (by omega)];omega
   have hdn:i / 2<n:=by omega
   clear hc q0 he hx;go_enter Tryz.func166,Tryz.ntmps166;go_wp2;go_ret;exact⟨ret_int (by go_num),rfl⟩
 ·rw[edge_end (by omega)]
  have f1:decide (2*(n:Int)≤i)=true:=by simp;omega
  go_enter Tryz.func166,Tryz.ntmps166;go_wp2;go_ret;exact⟨rfl,rfl⟩
end Sp
end Go.Proofs.YtcbpgemiffmieaaGreat
namespace Go.Proofs.YtcbpgemiffmieaaGreat
open Go.ChangeShapes Go.WideShapes Go.ChangeAt Go.RowKit
namespace Sp
theorem RightF.of_append:∀ {a b:List (Int×Int)} {m:Int},RightF m (a++b)→RightF m a
 | [],_,_,_=>trivial
 | _::_,_,_,h=>⟨h.1,h.2.1,h.2.2.1,RightF.of_append h.2.2.2⟩
theorem RightF.take {l:List (Int×Int)} {m:Int} (h:RightF m l) (k:Nat):RightF m (l.take k):=RightF.of_append (b:=l.drop k) (by rwa [List.take_append_drop])
set_option maxRecDepth 100000 in
set_option maxHeartbeats 1000000 in
theorem refright_any (l:List (Int×Int)) (n:Nat) (A:Option Addr) (c:Nat) (w:World) (hl:l.length=n) (hn:n≤1000000) (hr:Rd w w.heap.size 2 A n c (runsC l)) :
  Calls Tryz.prog 53 #[.slice A n c] w fun e w'=>e = .returned (.bool (rightB l))∧Below w.heap.size w w':=by
 have HR:=Lib.hid hr;have HL:=Lib.hid hl;clear hr hl;go_enter Tryz.func53,Tryz.ntmps53;go_wp2
 go_loopw [6] (fun i wr=>∃ (k:Nat) (m:Int),k≤n∧i = .int .i64 k∧Hid (1≤m)∧Hid (k=0→m=1)∧Hid (∀ (j:Nat) (h:j<l.length),k=j+1→m=l[j].2+2∧l[j].2≤1099511627776)∧Hid (RightF 1 l↔RightF m (l.drop k))∧Hid (∃ q,wr=w.drewN q)) (fun i _=>n-(intOf i).toNat)
 case atStart=>exact⟨0,1,by omega,rfl,Int.le_refl 1,fun _=>rfl,fun j _ h=>by omega,Iff.rfl,⟨0,rfl⟩⟩
 case round=>
  obtain⟨k,m,hk,rfl,HM,HM0,HM1,HI,HB⟩:=hrel;obtain⟨q,rfl⟩:=HB.out;have HBe:∀ q',Hid (Below w.heap.size w ((w.drewN q).drewN q')):=fun q'=>bel_drewN (bel_drewN (Below.refl _ _) _) _
  by_cases hlt:k<n
  ·have hkl:k<l.length:=by rw[HL.out];exact hlt
   obtain⟨b,o,rfl,hbl,hc⟩:=rd_run HR.out HL.out hlt;obtain⟨q0,q1⟩:=hc k hkl;obtain⟨p,hp⟩:∃ p,p=l[k]:=⟨_,rfl⟩;have HD:=Lib.hid (drop_at hkl hp);have HP:=Lib.hid hp;rw[← hp]at q0 q1;obtain⟨x,y⟩:=p;have hm:=HM.out
   by_cases h1:x<1
   ·have f1:decide (x<1)=true:=by simpa using h1
    have HE:Hid (false=rightB l):=rightB_of HI.out (by rw[HD.out];simp only[Bool.false_eq_true,RightF,false_iff];omega);clear hc hp;go_wp2
    go_quiet (fail)
    go_wp2;go_ret;exact⟨ret_bool HE.out,(HBe _).out⟩
   ·have f1:decide (x<1)=false:=by simpa using h1
    by_cases h3:1099511627776<y
    ·have f3:decide (1099511627776<y)=true:=by simpa using h3
     have HE:Hid (false=rightB l):=rightB_of HI.out (by rw[HD.out];simp only[Bool.false_eq_true,RightF,false_iff];omega);clear hc hp;go_wp2
     go_quiet (fail)
     go_wp2;go_ret;exact⟨ret_bool HE.out,(HBe _).out⟩
    ·have f3:decide (1099511627776<y)=false:=by simpa using h3
     by_cases h2:y<x
     ·have f2:decide (y<x)=true:=by simpa using h2
      have HE:Hid (false=rightB l):=rightB_of HI.out (by rw[HD.out];simp only[Bool.false_eq_true,RightF,false_iff];omega);clear hc hp;go_wp2
      go_quiet (fail)
      go_wp2;go_ret;exact⟨ret_bool HE.out,(HBe _).out⟩
     ·have f2:decide (y<x)=false:=by simpa using h2
      have hstep:m≤x→Hid (RightF 1 l↔RightF (y+2) (l.drop (k+1))):=fun hmx=>by
       refine Iff.trans HI.out ?_;rw[HD.out];simp only[RightF];exact⟨fun h=>h.2.2.2,fun h=>⟨by omega,by omega,by omega,h⟩⟩
      have hnext:Hid (∀ (j:Nat) (h:j<l.length),k+1=j+1→y+2=l[j].2+2∧l[j].2≤1099511627776):=fun j h e=>by
       have:j=k:=by omega
       subst this;rw[← HP.out];exact⟨rfl,by show y≤_;omega⟩
      rcases Nat.eq_zero_or_pos k with rfl | hk0
      ·have hm0:=HM0.out rfl
       have HST:=hstep (by omega);clear hc hp hstep;simp only[Nat.zero_mul,Nat.add_zero]at q0 q1;go_wp2
       go_quiet (fail)
       go_wp2;go_roundw
       case rel=>exact⟨1,y+2,by omega,rfl,by unfold Hid;omega,fun h=>by omega,hnext.out,HST.out,⟨q+_,rfl⟩⟩
       case measure=>simp[intOf];omega
      ·obtain⟨k,rfl⟩:∃ j,k=j+1:=⟨k-1,by omega⟩
       obtain⟨r0,r1⟩:=hc k (by omega);obtain⟨p,hp'⟩:∃ p,p=l[k]:=⟨_,rfl⟩;obtain⟨hme,hle⟩:=HM1.out k (by omega) rfl;rw[← hp']at r0 r1 hme hle;obtain⟨u,v⟩:=p;dsimp only at hme hle r0 r1
       have hk1:((k+1:Nat):Int)-1=(k:Int):=by omega
       have hk2:decide ((0:Int)<((k+1:Nat):Int))=true:=decide_eq_true (by omega)
       by_cases h4:x<m
       ·have f4:decide (x-v<2)=true:=by simp;omega
        have HE:Hid (false=rightB l):=rightB_of HI.out (by rw[HD.out];simp only[Bool.false_eq_true,RightF,false_iff];omega);clear hc hp hp' hstep hnext;go_wp2
        go_quiet (fail)
        go_wp2;go_ret;exact⟨ret_bool HE.out,(HBe _).out⟩
       ·have f4:decide (x-v<2)=false:=by simp;omega
        have HST:=hstep (by omega);clear hc hp hp' hstep;go_wp2
        go_quiet (fail)
        go_wp2;go_roundw
        case rel=>exact⟨k+1+1,y+2,by omega,by go_num,by unfold Hid;omega,fun h=>by omega,hnext.out,HST.out,⟨q+_,rfl⟩⟩
        case measure=>simp[intOf];omega
  ·have HE:Hid (true=rightB l):=rightB_of HI.out (by rw[List.drop_eq_nil_of_le (by rw[HL.out];omega)];simp[RightF])
   go_wp2;go_ret;exact⟨ret_bool HE.out,(HBe 0).out⟩
end Sp
end Go.Proofs.YtcbpgemiffmieaaGreat
namespace Go.Proofs.YtcbpgemiffmieaaGreat
namespace Cx
open Sp
def upTo (v:Int):List (Int×Int):=if 0<v then [(1,v)]else []
def MayB (v:Int):Prop:=0≤v∧v≤1099511627776
end Cx
end Go.Proofs.YtcbpgemiffmieaaGreat
namespace Go.Proofs.YtcbpgemiffmieaaGreat
open Go.ChangeShapes Go.WideShapes Go.ChangeAt Go.RowKit
namespace Sp
theorem upon_append {P:Program} {o:Oper} {a:Go.Act} {K:Go.Act→World→Prop} {Q:Exit→Go.Act→World→Prop} {w w':World} {v xv v':Value} (s x:Operand) (t:TypeId)
  (ho:o.op = .call { callee:=.builtin .append,args:=#[s,x],argTypes:=#[t,t] }) (hs:a.eval s=v) (hx:a.eval x=xv)
  (hr:(Builtin.append_ #[t,t] o.type #[v,xv]).run P w = .ok v' w') (h:K (a.put o.dst v') w'):Oper.upon P o a K Q ((execOp a.eval o).run P w):=by
 unfold execOp;simp only[ho,resolve,invoke,builtin,Sem.run_bind,Sem.run_pure,Result.andThen_ok,List.map_toArray,List.map_cons,List.map_nil,hs,hx,hr];exact h
set_option maxRecDepth 100000 in
set_option maxHeartbeats 1000000 in
theorem refhas_any (l:List (Int×Int)) (n:Nat) (A:Option Addr) (c:Nat) (w:World) (hl:l.length=n) (hn:n≤1000000) (hr:Rd w w.heap.size 2 A n c (runsC l)) (v:Int) :
  Calls Tryz.prog 142 #[.slice A n c,.int .i64 v] w fun e w'=>e = .returned (.bool (hasB l v))∧w'=w:=by
 obtain⟨z,hz⟩:∃ z,z=hasB l v:=⟨_,rfl⟩;rw[← hz];have HZ:=Lib.hid hz;have HR:=Lib.hid hr;have HL:=Lib.hid hl;clear hr hl hz;go_enter Tryz.func142,Tryz.ntmps142;go_wp2
 go_loop [8] (fun i=>∃ (k:Nat),k≤n∧i = .int .i64 k∧Hid (hasB (l.take k) v=false)) (fun i=>n-(intOf i).toNat)
 case atStart=>exact⟨0,by omega,rfl,Lib.hid (by rw[List.take_zero];rfl)⟩
 case round=>
  obtain⟨k,hk,rfl,HF⟩:=hrel
  by_cases hlt:k<n
  ·have hkl:k<l.length:=by rw[HL.out];exact hlt
   obtain⟨b,o,rfl,hbl,hc⟩:=rd_run HR.out HL.out hlt;obtain⟨q0,q1⟩:=hc k hkl;obtain⟨p,hp⟩:∃ p,p=l[k]:=⟨_,rfl⟩;have htk:l.take (k+1)=l.take k++[l[k]]:=List.take_succ_eq_append_getElem hkl;rw[← hp]at q0 q1 htk;obtain⟨x,y⟩:=p
   by_cases h1:x≤v
   ·have f1:decide (x≤v)=true:=by simpa using h1
    by_cases h2:v≤y
    ·have f2:decide (v≤y)=true:=by simpa using h2
     have HE:Hid (true=z):=by
      unfold Hid;rw[HZ.out];exact (has_true.2 ⟨(x,y),by rw[hp];exact List.getElem_mem hkl,h1,h2⟩).symm
     clear hc hp htk;go_wp2;go_ret;exact⟨ret_bool HE.out,rfl⟩
    ·have f2:decide (v≤y)=false:=by simpa using h2
     have HF2:Hid (hasB (l.take (k+1)) v=false):=by
      unfold Hid;rw[htk,has_append,HF.out];simp[hasB];omega
     clear hc hp htk;go_wp2
     go_round
     case rel=>exact⟨k+1,by omega,by go_num,HF2.out⟩
     case measure=>simp[intOf];omega
   ·have f1:decide (x≤v)=false:=by simpa using h1
    have HF2:Hid (hasB (l.take (k+1)) v=false):=by
     unfold Hid;rw[htk,has_append,HF.out];simp[hasB];omega
    clear hc hp htk;go_wp2
    go_round
    case rel=>exact⟨k+1,by omega,by go_num,HF2.out⟩
    case measure=>simp[intOf];omega
  ·have HE:Hid (false=z):=by
    unfold Hid;have:=HF.out;rw[List.take_of_length_le (by rw[HL.out];omega)]at this;rw[HZ.out,this]
   go_wp2;go_ret;exact⟨ret_bool HE.out,rfl⟩
def endsL (l:List (Int×Int)):List Int:=l.flatMap fun r=>[r.1,r.2+1]
theorem endsL_snoc (l:List (Int×Int)) (r:Int×Int):endsL (l++[r])=endsL l++[r.1,r.2+1]:=by simp[endsL]
theorem endsL_len (l:List (Int×Int)):(endsL l).length=l.length*2:=by
 induction l with
 | nil=>rfl
 | cons r l ih=>
  have:endsL (r::l)=r.1::(r.2+1)::endsL l:=rfl;rw[this];simp[ih];omega
def nstep (above:Int) (acc:Option Int) (x:Int):Option Int:=if above<x∧(∀ b,acc=some b→x<b)then some x else acc
def nextL (above:Int) (l:List Int):Option Int:=l.foldl (nstep above) none
theorem nextL_snoc (above:Int) (l:List Int) (x:Int):nextL above (l++[x])=nstep above (nextL above l) x:=by unfold nextL;rw[List.foldl_append];rfl
def NextIs (above:Int) (l:List Int):Option Int→Prop
 | none=>∀ x∈l,x≤above
 | some t=>t∈l∧above<t∧∀ x∈l,above<x→t≤x
theorem nextL_is (above:Int) (l:List Int):NextIs above l (nextL above l):=by
 have key:∀ k,k≤l.length→NextIs above (l.take k) (nextL above (l.take k)):=by
  intro k
  induction k with
  | zero=>intro _;simp[nextL,NextIs]
  | succ k ih=>
   intro hk;have ih:=ih (by omega);rw[List.take_succ_eq_append_getElem (by omega),nextL_snoc];obtain⟨d,hd⟩:∃ d,d=l[k]:=⟨_,rfl⟩;obtain⟨acc,hacc⟩:∃ acc,acc=nextL above (l.take k):=⟨_,rfl⟩;rw[← hd,← hacc];rw[← hacc]at ih;unfold nstep
   by_cases h:above<d∧(∀ b,acc=some b→d<b)
   ·rw[if_pos h]
    refine⟨by simp,h.1,fun x hx hax=>?_⟩
    rcases List.mem_append.1 hx with hx | hx
    ·cases acc with
     | none=>have:=ih x hx;omega
     | some b=>have:=ih.2.2 x hx hax;have:=h.2 b rfl;omega
    ·rw[List.mem_singleton.1 hx];omega
   ·rw[if_neg h]
    cases acc with
    | none=>
     intro x hx
     rcases List.mem_append.1 hx with hx | hx
     ·exact ih x hx
     ·rw[List.mem_singleton.1 hx]
      have:¬above<d:=fun hlt=>h ⟨hlt,by simp⟩;omega
    | some b=>
     refine⟨List.mem_append_left _ ih.1,ih.2.1,fun x hx hax=>?_⟩
     rcases List.mem_append.1 hx with hx | hx
     ·exact ih.2.2 x hx hax
     ·rw[List.mem_singleton.1 hx]at hax ⊢
      have:¬d<b:=fun hlt=>h ⟨hax,fun b' e=>by injection e with e;omega⟩;omega
 have:=key l.length (Nat.le_refl _)
 rwa [List.take_of_length_le (Nat.le_refl _)]at this
set_option maxRecDepth 100000 in
set_option maxHeartbeats 1000000 in
theorem next_any (l:List Int) (n:Nat) (A:Option Addr) (c:Nat) (w:World) (hl:l.length=n) (hn:n≤1000000) (hr:Rd w w.heap.size 1 A n c (intsC l)) (v:Int) :
  Calls Tryz.prog 141 #[.slice A n c,.int .i64 v] w fun e w'=>e = .returned (.tuple #[.int .i64 ((nextL v l).getD 0),.bool (nextL v l).isSome])∧w'=w:=by
 obtain⟨z,hz⟩:∃ z,z=nextL v l:=⟨_,rfl⟩;rw[← hz];obtain⟨zb,hzb⟩:∃ x,x=z.getD 0:=⟨_,rfl⟩;obtain⟨zo,hzo⟩:∃ x,x=z.isSome:=⟨_,rfl⟩;rw[← hzb,← hzo];have HZB:=Lib.hid hzb;have HZO:=Lib.hid hzo;have HZ:=Lib.hid hz;have HR:=Lib.hid hr;have HL:=Lib.hid hl;clear hr hl hz hzb hzo;go_enter Tryz.func141,Tryz.ntmps141;go_wp2
 go_loop [6,7,11] (fun b s i=>∃ (k:Nat) (best:Int) (ok:Bool),k≤n∧b = .int .i64 best∧s = .bool ok∧i = .int .i64 k∧Hid (best=(nextL v (l.take k)).getD 0∧ok=(nextL v (l.take k)).isSome)) (fun _ _ i=>n-(intOf i).toNat)
 case atStart=>exact⟨0,0,false,by omega,rfl,rfl,rfl,Lib.hid (by rw[List.take_zero];exact⟨rfl,rfl⟩)⟩
 case round=>
  obtain⟨k,best,ok,hk,rfl,rfl,rfl,HF⟩:=hrel
  by_cases hlt:k<n
  ·have hkl:k<l.length:=by rw[HL.out];exact hlt
   obtain⟨b,o,rfl,hbl,hc⟩:=rd_int HR.out HL.out hlt;have q0:=hc k hkl
   have htk:nextL v (l.take (k+1))=nstep v (nextL v (l.take k)) l[k]:=by rw[List.take_succ_eq_append_getElem hkl,nextL_snoc]
   obtain⟨x,hx⟩:∃ x,x=l[k]:=⟨_,rfl⟩;obtain⟨acc,hacc⟩:∃ acc,acc=nextL v (l.take k):=⟨_,rfl⟩;rw[← hx]at q0 htk;rw[← hacc]at htk HF
   have hyes:nstep v acc x=some x→Hid (x=(nextL v (l.take (k+1))).getD 0∧true=(nextL v (l.take (k+1))).isSome):=fun e=>by
    unfold Hid;rw[htk,e];exact⟨rfl,rfl⟩
   have hno:nstep v acc x=acc→Hid (best=(nextL v (l.take (k+1))).getD 0∧ok=(nextL v (l.take (k+1))).isSome):=fun e=>by
    unfold Hid;rw[htk,e];exact HF.out
   clear hc hx htk hacc
   by_cases h1:v<x
   ·have f1:decide (v<x)=true:=by simpa using h1
    cases acc with
    | none=>
     have hok:ok=false:=HF.out.2;subst hok;have HY:=hyes (by unfold nstep;rw[if_pos ⟨h1,by simp⟩]);clear hyes hno;go_wp2
     go_round
     case rel=>exact⟨k+1,x,true,by omega,rfl,rfl,by go_num,HY.out⟩
     case measure=>simp[intOf];omega
    | some b0=>
     have hok:ok=true:=HF.out.2;have hb0:best=b0:=HF.out.1;subst hok;subst hb0
     by_cases h2:x<best
     ·have f2:decide (x<best)=true:=by simpa using h2
      have HY:=hyes (by unfold nstep;rw[if_pos ⟨h1,fun b' e=>by injection e with e;omega⟩]);clear hyes hno;go_wp2
      go_round
      case rel=>exact⟨k+1,x,true,by omega,rfl,rfl,by go_num,HY.out⟩
      case measure=>simp[intOf];omega
     ·have f2:decide (x<best)=false:=by simpa using h2
      have HY:=hno (by unfold nstep;rw[if_neg (fun h=>h2 (h.2 best rfl))]);clear hyes hno;go_wp2
      go_round
      case rel=>exact⟨k+1,best,true,by omega,rfl,rfl,by go_num,HY.out⟩
      case measure=>simp[intOf];omega
   ·have f1:decide (v<x)=false:=by simpa using h1
    have HY:=hno (by unfold nstep;rw[if_neg (fun h=>h1 h.1)]);clear hyes hno;go_wp2
    go_round
    case rel=>exact⟨k+1,best,ok,by omega,rfl,rfl,by go_num,HY.out⟩
    case measure=>simp[intOf];omega
  ·have HE:Hid (best=z.getD 0∧ok=z.isSome):=by
    have:=HF.out;rw[List.take_of_length_le (by rw[HL.out];omega)]at this;unfold Hid;rw[HZ.out];exact this
   have hE:best=zb∧ok=zo:=by rw[HZB.out,HZO.out];exact HE.out
   clear HE HZB HZO HF;obtain⟨rfl,rfl⟩:=hE;go_wp2;go_ret2;exact⟨rfl,rfl⟩
set_option maxRecDepth 100000 in
set_option maxHeartbeats 1000000 in
theorem ends_any (l:List (Int×Int)) (n:Nat) (A:Option Addr) (c:Nat) (w:World) (hl:l.length=n) (hn:n≤10000) (hr:Rd w w.heap.size 2 A n c (runsC l)) (hR:RightF 1 l) :
  Calls Tryz.prog 140 #[.slice A n c] w fun e w'=>∃ A' c',e = .returned (.slice A' (n*2) c')∧Own w' w.heap.size 2 1 A' (n*2) c' (intsC (endsL l))∧Below w.heap.size w w':=by
 have HR:=Lib.hid hr;have HL:=Lib.hid hl;have HO:=Lib.hid hR;clear hr hl hR;go_enter Tryz.func140,Tryz.ntmps140;go_wp2
 go_loopw [3,7] (fun v i wr=>∃ (k m:Nat) (A':Option Addr) (c':Nat),k≤n∧v = .slice A' m c'∧i = .int .i64 k∧Hid (m=k*2)∧Hid (Own wr w.heap.size 2 1 A' m c' (intsC (endsL (l.take k))))∧Hid (Below w.heap.size w wr)) (fun _ i _=>n-(intOf i).toNat)
 case atStart=>exact⟨0,0,none,0,by omega,rfl,rfl,rfl,⟨World.ownsRow_nil _ _ _ _,by simp[endsL,intsC]⟩,Below.refl _ _⟩
 case round=>
  obtain⟨k,m,A',c',hk,rfl,rfl,HM,HOW,HB⟩:=hrel
  by_cases hlt:k<n
  ·have hkl:k<l.length:=by rw[HL.out];exact hlt
   obtain⟨b,o,rfl,hbl,hc⟩:=rd_run HR.out HL.out hlt;obtain⟨q0,q1⟩:=hc k hkl;have htk:l.take (k+1)=l.take k++[l[k]]:=List.take_succ_eq_append_getElem hkl;have hm:=HO.out.mem l[k] (List.getElem_mem hkl);obtain⟨p,hp⟩:∃ p,p=l[k]:=⟨_,rfl⟩;rw[← hp]at q0 q1 htk hm;obtain⟨x,y⟩:=p;obtain⟨hm1,hm2,hm3⟩:=hm;dsimp only at hm1 hm2 hm3;have q0:=(HB.out.cell (p:=⟨b,o+k*2,none⟩) hbl).trans q0;have q1:=(HB.out.cell (p:=⟨b,o+k*2+1,none⟩) hbl).trans q1
   obtain⟨v2,w2,hrun,ho2,hb2⟩:=run_push Tryz.underlying168 infoI rfl (by omega) (by omega) wr.drew w.heap.size wr.heap.size (by simp) (by have:=HB.out.size;simp;omega) _ m _ (ownsRow_later HOW.out.row (Below.refl _ _).drew) [.int .i64 x,.int .i64 (y+1)] 2 rfl (by intro u hu;simp at hu;rcases hu with rfl | rfl <;> rfl) (by have:=HM.out;omega)
   have e2:intsC (endsL (l.take k))++[.int .i64 x,.int .i64 (y+1)]=intsC (endsL (l.take (k+1))):=by rw[htk,endsL_snoc,intsC_append];rfl
   rw[e2]at ho2;obtain⟨A2,c2,rfl,ho3⟩:=Own.of_row ho2 (intsC_one _);have Hrun:=Lib.hid hrun;have HO2:=Lib.hid ho3;have HB2:=Lib.hid ((HB.out.drew).trans hb2)
   have HM2:Hid (m+2=(k+1)*2):=by unfold Hid;have:=HM.out;omega
   have hwy:IntKind.i64.wrap (y+1)=y+1:=IntWalk.i64_in _ (by omega);clear hc hp hrun ho2 ho3 hb2 htk e2 HOW;go_wp2
   go_region_law (refine upon_append _ _ _ rfl rfl rfl Hrun.out ?_)
   all_goals
    clear Hrun q0 q1;go_wp2;go_roundw
    case rel=>exact⟨k+1,m+2,A2,c2,by omega,rfl,by go_num,HM2.out,HO2.out,HB2.out⟩
    case measure=>simp[intOf];omega
  ·obtain rfl:k=n:=by omega
   have HE:Hid (l.take k=l):=List.take_of_length_le (by rw[HL.out];omega);rw[HE.out]at HOW;have hm:=HM.out;subst hm;go_wp2;go_ret;exact⟨_,_,rfl,HOW.out,HB.out⟩
end Sp
end Go.Proofs.YtcbpgemiffmieaaGreat
namespace Go.Proofs.YtcbpgemiffmieaaGreat
namespace Pk
open Tr Cx Sp
theorem right_e63 {e:E} (h:RightE e):I63 e.a∧I63 e.n∧I63 e.v:=by
 obtain⟨h1,_,h3,h4⟩:=h;unfold Dt.rightB at h1;have h1:=of_decide_eq_true h1;exact⟨⟨by omega,by omega⟩,⟨by omega,by omega⟩,⟨by omega,by omega⟩⟩
def entP (k:Nat) (e:E):List UInt8:=match k with
 | 0=>[]
 | 1=>numB e.a
 | 2=>numB e.a++numB e.n
 | 3=>numB e.a++numB e.n++txtB e.s
 | _=>entB e
def RE (bs:List UInt8) (k:Nat) (e:E) (rest:List UInt8) (b:Bool):Prop:=
 (b=false∧bs=entP k e++rest)∨(b=true∧rest=[]∧∀ e' x,RightE e'→bs≠entB e'++x)
theorem entB_cat (e:E) (x:List UInt8):entB e++x=numB e.a++(numB e.n++(txtB e.s++(numB e.v++x))):=by unfold entB;simp only[List.append_assoc]
theorem no_ent {e:E} {x:List UInt8} : ([]:List UInt8)≠entB e++x:=by rw[entB_cat];exact no_num
theorem RE.zero (bs:List UInt8) (b:Bool) (hb:b=true→bs=[]) (e:E):RE bs 0 e bs b:=by
 cases b with
 | false=>exact .inl ⟨rfl,rfl⟩
 | true=>
  refine .inr ⟨rfl,hb rfl,fun e' x _=>?_⟩;rw[hb rfl];exact no_ent
section
variable {bs rest r2:List UInt8} {b c:Bool} {e:E} {v:Int} {s:ByteArray} {k:Nat}
theorem RE.bad (h:RE bs k e rest b):b=true→rest=[]:=fun hb=>by rcases h with h | h <;> simp_all
theorem RE.le (h:RE bs k e rest b):rest.length≤bs.length:=by
 rcases h with ⟨_,rfl⟩ | ⟨_,rfl,_⟩
 ·simp
 ·simp
theorem RE.one (h:RE bs 0 e rest b) (hn:NumS rest v r2 c):RE bs 1 ⟨v,e.n,e.s,e.v⟩ r2 c:=by
 rcases h with ⟨_,h⟩ | ⟨_,h1,h2⟩
 ·have h:bs=rest:=h
  rcases hn with ⟨rfl,h3,_⟩ | ⟨rfl,rfl,_,h3⟩
  ·exact .inl ⟨rfl,by rw[h,h3];rfl⟩
  ·refine .inr ⟨rfl,rfl,fun e' x hr ee=>?_⟩
   rw[h,entB_cat]at ee;exact h3 _ _ (right_e63 hr).1 ee
 ·rcases hn with ⟨rfl,h3,_⟩ | ⟨rfl,rfl,_,_⟩
  ·rw[h1]at h3;exact absurd h3 no_num
  ·exact .inr ⟨rfl,rfl,h2⟩
theorem RE.two (h:RE bs 1 e rest b) (hn:NumS rest v r2 c):RE bs 2 ⟨e.a,v,e.s,e.v⟩ r2 c:=by
 rcases h with ⟨_,h⟩ | ⟨_,h1,h2⟩
 ·have h:bs=numB e.a++rest:=h
  rcases hn with ⟨rfl,h3,_⟩ | ⟨rfl,rfl,_,h3⟩
  ·exact .inl ⟨rfl,by rw[h,h3];unfold entP;simp only[List.append_assoc]⟩
  ·refine .inr ⟨rfl,rfl,fun e' x hr ee=>?_⟩
   rw[h,entB_cat]at ee;obtain⟨_,ee⟩:=numB_prefix ee;exact h3 _ _ (right_e63 hr).2.1 ee
 ·rcases hn with ⟨rfl,h3,_⟩ | ⟨rfl,rfl,_,_⟩
  ·rw[h1]at h3;exact absurd h3 no_num
  ·exact .inr ⟨rfl,rfl,h2⟩
theorem RE.three (h:RE bs 2 e rest b) (hn:TxtS rest s r2 c):RE bs 3 ⟨e.a,e.n,s,e.v⟩ r2 c:=by
 rcases h with ⟨_,h⟩ | ⟨_,h1,h2⟩
 ·have h:bs=numB e.a++(numB e.n++rest):=by rw[h];unfold entP;simp only[List.append_assoc]
  rcases hn with ⟨rfl,h3⟩ | ⟨rfl,rfl,_,h3⟩
  ·exact .inl ⟨rfl,by rw[h,h3];unfold entP;simp only[List.append_assoc]⟩
  ·refine .inr ⟨rfl,rfl,fun e' x hr ee=>?_⟩
   rw[h,entB_cat]at ee;obtain⟨_,ee⟩:=numB_prefix ee;obtain⟨_,ee⟩:=numB_prefix ee;exact h3 _ _ ee
 ·rcases hn with ⟨rfl,h3⟩ | ⟨rfl,rfl,_,_⟩
  ·rw[h1]at h3;exact absurd h3 no_txt
  ·exact .inr ⟨rfl,rfl,h2⟩
theorem RE.four (h:RE bs 3 e rest b) (hn:NumS rest v r2 c):RE bs 4 ⟨e.a,e.n,e.s,v⟩ r2 c:=by
 rcases h with ⟨_,h⟩ | ⟨_,h1,h2⟩
 ·have h:bs=numB e.a++(numB e.n++(txtB e.s++rest)):=by rw[h];unfold entP;simp only[List.append_assoc]
  rcases hn with ⟨rfl,h3,_⟩ | ⟨rfl,rfl,_,h3⟩
  ·exact .inl ⟨rfl,by rw[h,h3];unfold entP entB;simp only[List.append_assoc]⟩
  ·refine .inr ⟨rfl,rfl,fun e' x hr ee=>?_⟩
   rw[h,entB_cat]at ee;obtain⟨_,ee⟩:=numB_prefix ee;obtain⟨_,ee⟩:=numB_prefix ee;obtain⟨_,ee⟩:=pre_txt _ _ _ _ ee;exact h3 _ _ (right_e63 hr).2.2 ee
 ·rcases hn with ⟨rfl,h3,_⟩ | ⟨rfl,rfl,_,_⟩
  ·rw[h1]at h3;exact absurd h3 no_num
  ·exact .inr ⟨rfl,rfl,h2⟩
end
def NoT (bs:List UInt8) (d:Nat):Prop:=∀ t x,RightT d t→bs≠treeB t++x
theorem noT_zero (bs:List UInt8):NoT bs 0:=fun _ _ h=>h.elim
def ES (bs:List UInt8) (d K:Nat) (ps:List E) (rest:List UInt8) (b:Bool):Prop:=
 (b=false∧bs=numB K++ps.flatMap entB++rest)∨(b=true∧rest=[]∧NoT bs d)
def KS (bs:List UInt8) (d:Nat) (es:List E) (K:Nat) (ps:List (ByteArray×T)) (rest:List UInt8) (b:Bool):Prop:=
 (b=false∧bs=listB entB es++(numB K++ps.flatMap kidB++rest))∨(b=true∧rest=[]∧NoT bs d)
def TreeS (bs:List UInt8) (d:Nat) (t:T) (rest:List UInt8) (b:Bool):Prop:=(b=false∧bs=treeB t++rest)∨(b=true∧rest=[]∧NoT bs d)
def RKid (bs:List UInt8) (d:Nat) (key:ByteArray) (rest:List UInt8) (b:Bool):Prop:=
 (b=false∧bs=txtB key++rest)∨(b=true∧rest=[]∧∀ k t x,RightT d t→bs≠kidB (k,t)++x)
section
variable {bs rest r2:List UInt8} {b c:Bool} {d K:Nat}
theorem ES.bad {ps:List E} (h:ES bs d K ps rest b):b=true→rest=[]:=fun hb=>by rcases h with h | h <;> simp_all
theorem ES.le {ps:List E} (h:ES bs d K ps rest b):rest.length≤bs.length:=by
 rcases h with ⟨_,rfl⟩ | ⟨_,rfl,_⟩
 ·simp only[List.length_append];omega
 ·simp
theorem KS.bad {es:List E} {ps:List (ByteArray×T)} (h:KS bs d es K ps rest b):b=true→rest=[]:=fun hb=>by rcases h with h | h <;> simp_all
theorem KS.le {es:List E} {ps:List (ByteArray×T)} (h:KS bs d es K ps rest b):rest.length≤bs.length:=by
 rcases h with ⟨_,rfl⟩ | ⟨_,rfl,_⟩
 ·simp only[List.length_append];omega
 ·simp
theorem TreeS.bad {t:T} (h:TreeS bs d t rest b):b=true→rest=[]:=fun hb=>by rcases h with h | h <;> simp_all
theorem TreeS.le {t:T} (h:TreeS bs d t rest b):rest.length≤bs.length:=by
 rcases h with ⟨_,rfl⟩ | ⟨_,rfl,_⟩
 ·simp only[List.length_append];omega
 ·simp
theorem RKid.bad {key:ByteArray} (h:RKid bs d key rest b):b=true→rest=[]:=fun hb=>by rcases h with h | h <;> simp_all
theorem RKid.le {key:ByteArray} (h:RKid bs d key rest b):rest.length≤bs.length:=by
 rcases h with ⟨_,rfl⟩ | ⟨_,rfl,_⟩
 ·simp only[List.length_append];omega
 ·simp
theorem ent_pos (e:E):1≤(entB e).length:=by
 have h:=congrArg List.length (entB_cat e []);have:=numB_pos e.a;simp only[List.length_append,List.length_nil]at h;omega
theorem kid_pos (k:ByteArray×T):1≤(kidB k).length:=by
 unfold kidB txtB;have:=numB_pos k.1.size;simp only[List.length_append];omega
theorem ES.zero (h:ManyS bs K rest b):ES bs d K [] rest b:=by
 rcases h with ⟨rfl,h,_⟩ | ⟨rfl,rfl,_,h⟩
 ·exact .inl ⟨rfl,by simpa using h⟩
 ·refine .inr ⟨rfl,rfl,fun t x _ e=>?_⟩
  cases t with
  | mk es ks=>
   rw[treeB_mk]at e;unfold listB at e;rw[List.append_assoc,List.append_assoc]at e;refine h es.length _ ?_ e;have h1:=list_len (f:=entB) (l:=es) fun a _=>ent_pos a;simp only[List.length_append];omega
theorem ES.step {ps:List E} {e:E} (h:ES bs d K ps rest b) (hk:ps.length<K) (hr:RE rest 4 e r2 c):ES bs d K (ps++[e]) r2 c:=by
 rcases h with ⟨rfl,h⟩ | ⟨rfl,h1,h2⟩
 ·rcases hr with ⟨rfl,h3⟩ | ⟨rfl,rfl,h3⟩
  ·refine .inl ⟨rfl,?_⟩
   have h3:rest=entB e++r2:=h3;rw[h,h3];simp[List.append_assoc]
  ·refine .inr ⟨rfl,rfl,fun t x ht ee=>?_⟩
   cases t with
   | mk es ks=>
    cases d with
    | zero=>exact ht.elim
    | succ d=>
     rw[treeB_mk,h]at ee;unfold listB at ee;simp only[List.append_assoc]at ee;obtain⟨e1,ee⟩:=numB_prefix ee;obtain⟨m,hm,ee⟩:=seq_cut (fun a=>pre_ent a) (by omega:ps.length≤es.length) ee.symm
     cases m with
     | nil=>
      rw[List.append_nil]at hm;rw[hm]at e1;omega
     | cons y m=>
      rw[List.flatMap_cons,List.append_assoc]at ee;exact h3 _ _ (ht.1 y (by rw[hm];simp)) ee
 ·rcases hr with ⟨rfl,h3⟩ | ⟨rfl,rfl,_⟩
  ·rw[h1]at h3
   exact absurd h3 no_ent
  ·exact .inr ⟨rfl,rfl,h2⟩
theorem KS.zero {es:List E} {K0:Nat} (h:ES bs d K0 es rest b) (he:es.length=K0) (hm:ManyS rest K r2 c):KS bs d es K [] r2 c:=by
 rcases h with ⟨rfl,h⟩ | ⟨rfl,h1,h2⟩
 ·have h:bs=listB entB es++rest:=by rw[h];unfold listB;rw[he]
  rcases hm with ⟨rfl,h3,_⟩ | ⟨rfl,rfl,_,h3⟩
  ·exact .inl ⟨rfl,by rw[h,h3];simp⟩
  ·refine .inr ⟨rfl,rfl,fun t x ht ee=>?_⟩
   cases t with
   | mk es' ks=>
    rw[treeB_mk,h,List.append_assoc]at ee;obtain⟨_,ee⟩:=pre_list (f:=entB) (fun a _=>pre_ent a) _ _ _ ee;unfold listB at ee;rw[List.append_assoc]at ee;refine h3 ks.length _ ?_ ee;have g1:=list_len (f:=kidB) (l:=ks) fun a _=>kid_pos a;simp only[List.length_append];omega
 ·rcases hm with ⟨rfl,h3,_⟩ | ⟨rfl,rfl,_,_⟩
  ·rw[h1]at h3
   exact absurd h3 no_num
  ·exact .inr ⟨rfl,rfl,h2⟩
theorem RKid.zero {key:ByteArray} (_hb:b=true→rest=[]) (h:TxtS rest key r2 c):RKid rest d key r2 c:=by
 rcases h with ⟨rfl,h⟩ | ⟨rfl,rfl,_,h⟩
 ·exact .inl ⟨rfl,h⟩
 ·refine .inr ⟨rfl,rfl,fun k t x _ e=>?_⟩
  unfold kidB at e;rw[List.append_assoc]at e;exact h _ _ e
theorem KS.step {es:List E} {ps:List (ByteArray×T)} {key:ByteArray} {t:T} {r3:List UInt8} {c3:Bool} (h:KS bs (d+1) es K ps rest b) (hk:ps.length<K) (hr:RKid rest d key r2 c) (ht:TreeS r2 d t r3 c3):KS bs (d+1) es K (ps++[(key,t)]) r3 c3:=by
 have hno:(∀ k t x,RightT d t→rest≠kidB (k,t)++x)→b=false→NoT bs (d+1):=fun h3 hb u x hu ee=>by
  rcases h with ⟨_,h⟩ | ⟨h,_⟩
  ·cases u with
   | mk es' ks=>
    rw[treeB_mk,h]at ee;simp only[List.append_assoc]at ee;obtain⟨_,ee⟩:=pre_list (f:=entB) (fun a _=>pre_ent a) _ _ _ ee;unfold listB at ee;simp only[List.append_assoc]at ee;obtain⟨e1,ee⟩:=numB_prefix ee
    obtain⟨m,hm,ee⟩:=seq_cut (f:=kidB) (fun a=>fun k' x y h=>by
     unfold kidB at h;rw[List.append_assoc,List.append_assoc]at h;obtain⟨g3,h⟩:=pre_txt _ _ _ _ h;obtain⟨g4,h⟩:=pre_tree _ _ _ _ h
     exact⟨Prod.ext g3 g4,h⟩) (by omega:ps.length≤ks.length) ee.symm
    cases m with
    | nil=>
     rw[List.append_nil]at hm;rw[hm]at e1;omega
    | cons y m=>
     rw[List.flatMap_cons,List.append_assoc]at ee;exact h3 y.1 y.2 _ (hu.2.2.2 y (by rw[hm];simp)).2.2 ee
  ·rw[hb]at h;cases h
 rcases hr with ⟨rfl,h3⟩ | ⟨rfl,rfl,h3⟩
 ·rcases ht with ⟨rfl,h4⟩ | ⟨rfl,rfl,h4⟩
  ·rcases h with ⟨rfl,h⟩ | ⟨rfl,h1,h2⟩
   ·refine .inl ⟨rfl,?_⟩
    rw[h,h3,h4];simp[kidB,List.append_assoc]
   ·rw[h1]at h3
    exact absurd h3 no_txt
  ·refine .inr ⟨rfl,rfl,?_⟩
   rcases hb:b with _ | _
   ·refine hno (fun k u x hu ee=>?_) hb
    unfold kidB at ee;rw[h3,List.append_assoc]at ee;obtain⟨_,ee⟩:=pre_txt _ _ _ _ ee;exact h4 u x hu ee
   ·rcases h with ⟨h,_⟩ | ⟨_,_,h⟩
    ·rw[hb]at h;cases h
    ·exact h
 ·rcases ht with ⟨rfl,h4⟩ | ⟨rfl,rfl,_⟩
  ·have h5:=congrArg List.length h4
   have h6:1≤(treeB t).length:=by
    cases t with
    | mk es' ks'=>
     rw[treeB_mk];unfold listB;have:=numB_pos es'.length;simp only[List.length_append];omega
   rw[List.length_append,List.length_nil]at h5;omega
  ·refine .inr ⟨rfl,rfl,?_⟩
   rcases hb:b with _ | _
   ·exact hno h3 hb
   ·rcases h with ⟨h,_⟩ | ⟨_,_,h⟩
    ·rw[hb]at h;cases h
    ·exact h
theorem KS.all {es:List E} {ps:List (ByteArray×T)} (h:KS bs d es K ps rest b) (hk:ps.length=K):TreeS bs d (.mk es ps) rest b:=by
 rcases h with ⟨rfl,h⟩ | h
 ·refine .inl ⟨rfl,?_⟩
  rw[treeB_mk,h,← hk];unfold listB;simp only[List.append_assoc]
 ·exact .inr h
end
end Pk
end Go.Proofs.YtcbpgemiffmieaaGreat
namespace Go.Proofs.YtcbpgemiffmieaaGreat
open Go.ChangeShapes Go.WideShapes Go.ChangeAt Go.RowKit
namespace Tr
open Sp Rw
open Classical in
noncomputable def eqB {α:Type} (x y:α):Bool:=decide (x=y)
open Classical in
theorem eqB_yes {α:Type} {x y:α} (h:x=y):eqB x y=true:=decide_eq_true h
open Classical in
theorem eqB_no {α:Type} {x y:α} (h:¬x=y):eqB x y=false:=decide_eq_false h
open Classical in
theorem eqB_iff {α:Type} {x y:α} : eqB x y=true↔x=y:=decide_eq_true_iff
theorem bytes_ne {a b:ByteArray} (h:¬a=b):(a.toList==b.toList)=false:=by
 rw[beq_eq_false_iff_ne];exact fun h2=>h (bytes_ext h2)
def SameTo {α:Type} (l m:List α) (k:Nat):Prop:=∀ (i:Nat) (h:i<l.length) (h':i<m.length),i<k→l[i]=m[i]
theorem SameTo.zero {α:Type} (l m:List α):SameTo l m 0:=fun _ _ _ h=>absurd h (Nat.not_lt_zero _)
theorem SameTo.succ {α:Type} {l m:List α} {k:Nat} (h:SameTo l m k) (h1:∀ (a:k<l.length) (b:k<m.length),l[k]=m[k]):SameTo l m (k+1):=fun i hi hi' hlt=>by
 by_cases he:i=k
 ·subst he;exact h1 hi hi'
 ·exact h i hi hi' (by omega)
theorem SameTo.all {α:Type} {l m:List α} {k:Nat} (h:SameTo l m k) (hl:l.length=k) (hm:m.length=k):l=m:=List.ext_getElem (by omega) fun i h1 h2=>h i h1 h2 (by omega)
theorem not_same {α:Type} {l m:List α} {k:Nat} (h:k<l.length) (h':k<m.length) (hne:¬l[k]=m[k]):¬l=m:=fun e=>hne (by subst e;rfl)
end Tr
end Go.Proofs.YtcbpgemiffmieaaGreat
namespace Go.Proofs.YtcbpgemiffmieaaGreat
open Go.ChangeShapes Go.WideShapes Go.ChangeAt Go.RowKit
namespace Tr
open Rw
theorem weights_all {H:Type} (P:Program) (e:TypeId):∀ {l:List (DataW H)} {d:DataW H},d∈l→∀ {m:Nat},m∈d.weights P e→m∈DataW.weightsAll P e l
 | c::l,d,h,m,hm=>by
  unfold DataW.weightsAll
  rcases List.mem_cons.1 h with rfl | h
  ·exact List.mem_append_left _ hm
  ·exact List.mem_append_right _ (weights_all P e h hm)
section
variable {H:Type} {enc:TypeId×Value→H} {P:Program} {W:World}
theorem row_of_trod {t e:TypeId} {sz fuel:Nat} {cs:List Value} {x:DataW H×List MemPlace} (ht:P.underlying t=some (.slice e)) (hce:P.cellsOf e=sz) (hsz:0<sz)
  (h1:∀ n cs y,n<fuel→DataW.trod enc P W 0 (fun _=>true) true n e cs=some y→∀ u∈cs,u.oneCell'=true)
  (h:DataW.trod enc P W 0 (fun _=>true) true fuel t cs=some x) :
  ∃ (s:SV) (f:Nat→List Value),cs=[.slice s.A s.n s.c]∧(∀ i,(f i).length=sz)∧(∀ i,i<s.n→∃ n y,n<fuel∧DataW.trod enc P W 0 (fun _=>true) true n e (f i)=some y∧∀ m∈y.1.weights P e,m∈x.1.weights P t)∧(0<s.n→∃ m∈x.1.weights P t,s.n*P.bytesOf e≤m) ∧
   Rd W W.heap.size sz s.A s.n s.c ((List.range s.n).flatMap f)∧s.n≤maxLen:=by
 rcases DataW.trod_slice ht h with ⟨rfl,_⟩ | ⟨a,len,cap,elems,rest,n,rfl,rfl,rfl,_,hl,hm,hlen,hel,_⟩
 ·exact⟨⟨none,0,0⟩,fun _=>List.replicate sz (.int .i64 0),rfl,fun _=>by simp,fun i hi=>absurd hi (Nat.not_lt_zero _),fun h=>absurd h (Nat.not_lt_zero _),Rd.nil _,by simp[maxLen]⟩
 ·have hex:∀ i,∃ c:List Value,c.length=sz∧(i<len→(∃ y,DataW.trod enc P W 0 (fun _=>true) true n e c=some y∧y∈elems)∧∀ j,j<sz→W.cell? (a.add (i*sz+j))=c[j]?):=by
   intro i
   by_cases hi:i<len
   ·have:=hel i hi
    rw[List.getElem?_eq_getElem (by omega)]at this;obtain⟨c,hc,hy⟩:=Option.bind_eq_some_iff.1 this;obtain⟨_,hcl,hat⟩:=World.cells?_some hc;rw[hce]at hcl hat;refine⟨c,hcl,fun _=>⟨⟨_,hy,List.getElem_mem _⟩,fun j hj=>?_⟩⟩;have:=hat j hj
    rwa [add_add']at this
   ·exact⟨List.replicate sz (.int .i64 0),by simp,fun h=>absurd h hi⟩
  obtain⟨f,hf⟩:=Classical.axiomOfChoice hex;have hfl:∀ i,(f i).length=sz:=fun i=>(hf i).1;refine⟨⟨some a,len,cap⟩,f,rfl,hfl,fun i hi=>?_,fun _=>?_,?_,Nat.le_trans hl hm⟩
  ·obtain⟨y,hy,hmem⟩:=((hf i).2 hi).1
   refine⟨n,y,Nat.lt_succ_self n,hy,fun m hm=>?_⟩;simp only[DataW.weights,ht];exact List.mem_cons_of_mem _ (List.mem_append_left _ (weights_all P e (List.mem_map.2 ⟨y,hmem,rfl⟩) hm))
  ·have hx:(elems.length+rest.length)*P.bytesOf e∈(DataW.slice (elems.map (·.1)) (rest.map (·.1))).weights P t:=by
    simp only[DataW.weights,ht,List.length_map];exact List.mem_cons_self
   exact⟨_,hx,Nat.mul_le_mul_right _ (by rw[hlen];exact Nat.le_add_right _ _)⟩
  ·refine rd_of_cells (by rw[flatMap_len hfl,List.length_range]) hl (fun u hu=>?_) hsz (fun k u hu=>?_)
   ·obtain⟨i,hi,hu⟩:=List.mem_flatMap.1 hu
    obtain⟨y,hy,_⟩:=((hf i).2 (List.mem_range.1 hi)).1;exact h1 n (f i) y (Nat.lt_succ_self n) hy u hu
   ·have hk:k<len*sz:=by
     have:=(List.getElem?_eq_some_iff.1 hu).1
     rwa [flatMap_len hfl,List.length_range]at this
    have hq:k / sz<len:=Nat.div_lt_of_lt_mul (by rw[Nat.mul_comm];exact hk);have hr:k % sz<sz:=Nat.mod_lt _ hsz
    have he:k / sz*sz+k % sz=k:=by rw[Nat.mul_comm];exact Nat.div_add_mod k sz
    have h3:=flat_at (f:=f) (k:=sz) hfl (List.range len) (k / sz) (k % sz) (by rw[List.length_range];exact hq) hr;rw[he,List.getElem_range]at h3;have h4:=((hf (k / sz)).2 hq).2 (k % sz) hr;rw[he]at h4;rw[h4,← h3];exact hu
structure Types (P:Program) (tT tE tK tEs tKs tD tI tL tS:TypeId):Prop where
 T:∃ f0 f1:Field,P.underlying tT=some (.struct #[f0,f1])∧f0.type=tEs∧f0.offset=0∧f1.type=tKs∧f1.offset=1
 E:∃ f0 f1 f2:Field,P.underlying tE=some (.struct #[f0,f1,f2])∧f0.type=tD∧f0.offset=0∧f1.type=tS∧f1.offset=2∧f2.type=tL∧f2.offset=3
 D:∃ f0 f1:Field,P.underlying tD=some (.struct #[f0,f1])∧f0.type=tI∧f0.offset=0∧f1.type=tL∧f1.offset=1
 K:∃ f0 f1:Field,P.underlying tK=some (.struct #[f0,f1])∧f0.type=tS∧f0.offset=0∧f1.type=tT∧f1.offset=1
 Es:P.underlying tEs=some (.slice tE)
 Ks:P.underlying tKs=some (.slice tK)
 I:P.underlying tI=some (.int .i64)
 L:P.underlying tL=some (.int .i64)
 S:P.underlying tS=some .string
 cT:P.cellsOf tT=2
 cE:P.cellsOf tE=4
 cK:P.cellsOf tK=3
 cD:P.cellsOf tD=2
 cEs:P.cellsOf tEs=1
 cKs:P.cellsOf tKs=1
 cI:P.cellsOf tI=1
 cL:P.cellsOf tL=1
 cS:P.cellsOf tS=1
 bE:1≤P.bytesOf tE
 bK:1≤P.bytesOf tK
variable {tT tE tK tEs tKs tD tI tL tS:TypeId}
theorem ent_of_trod (ty:Types P tT tE tK tEs tKs tD tI tL tS) {n:Nat} {cs:List Value} {y:DataW H×List MemPlace} (h:DataW.trod enc P W 0 (fun _=>true) true n tE cs=some y):∃ e:E,cs=entC e:=by
 obtain⟨f0,f1,f2,hE,t0,o0,t1,o1,t2,o2⟩:=ty.E;obtain⟨y0,y1,y2,m,_,hlen,h0,h1,h2⟩:=Go.Deep.trod_struct3 hE h;rw[ty.cE]at hlen
 obtain⟨c0,c1,c2,c3,rfl⟩:∃ c0 c1 c2 c3,cs=[c0,c1,c2,c3]:=by
  match cs,hlen with
  | [c0,c1,c2,c3],_=>exact⟨_,_,_,_,rfl⟩
 rw[t0,o0,ty.cD]at h0;rw[t1,o1,ty.cS]at h1;rw[t2,o2,ty.cL]at h2;obtain⟨g0,g1,hD,u0,p0,u1,p1⟩:=ty.D
 simp at h0 h1 h2
 obtain⟨z0,z1,m2,_,_,k0,k1⟩:=trod_struct2 hD h0;rw[u0,p0,ty.cI]at k0;rw[u1,p1,ty.cL]at k1
 simp at k0 k1
 obtain⟨a,e0,_,_⟩:=DataW.trod_int ty.I k0;obtain⟨b,e1,_,_⟩:=DataW.trod_int ty.L k1;obtain⟨s,e2,_,_⟩:=DataW.trod_string ty.S h1;obtain⟨v,e3,_,_⟩:=DataW.trod_int ty.L h2
 simp at e0 e1 e2 e3
 subst e0;subst e1;subst e2;subst e3;exact⟨⟨a,b,s,v⟩,rfl⟩
theorem kid_cells (ty:Types P tT tE tK tEs tKs tD tI tL tS) {m:Nat} {cs:List Value} {y:DataW H×List MemPlace} (hy:DataW.trod enc P W 0 (fun _=>true) true m tK cs=some y):∃ (key:ByteArray) (se sk:SV),cs=[.string key,.slice se.A se.n se.c,.slice sk.A sk.n sk.c]:=by
 obtain⟨g0,g1,hK,u0,p0,u1,p1⟩:=ty.K;obtain⟨zs,m2,rfl,_,hl,hzl,hzs⟩:=DataW.trod_struct hK hy;rw[ty.cK]at hl
 obtain⟨d0,d1,d2,rfl⟩:∃ d0 d1 d2,cs=[d0,d1,d2]:=by
  match cs,hl with
  | [d0,d1,d2],_=>exact⟨_,_,_,rfl⟩
 have k0:=hzs 0 g0 rfl;have k1:=hzs 1 g1 rfl;rw[u0,p0,ty.cS,List.getElem?_eq_getElem (by rw[hzl];simp)]at k0;rw[u1,p1,ty.cT,List.getElem?_eq_getElem (by rw[hzl];simp)]at k1
 simp at k0 k1
 obtain⟨s,e2,_,_⟩:=DataW.trod_string ty.S k0;obtain⟨f0,f1,hT,t0,o0,t1,o1⟩:=ty.T;obtain⟨y0,y1,n,_,_,h0,h1⟩:=trod_struct2 hT k1;rw[t0,o0,ty.cEs]at h0;rw[t1,o1,ty.cKs]at h1
 simp at h0 h1
 have hsl:∀ {t e:TypeId} {fuel:Nat} {cs:List Value} {x:DataW H×List MemPlace},P.underlying t=some (.slice e)→DataW.trod enc P W 0 (fun _=>true) true fuel t cs=some x→∃ s:SV,cs=[.slice s.A s.n s.c]:=by
  intro t e fuel cs x ht h
  rcases DataW.trod_slice ht h with ⟨rfl,_⟩ | ⟨a,len,cap,_,_,_,_,rfl,_⟩
  ·exact⟨⟨none,0,0⟩,rfl⟩
  ·exact⟨⟨some a,len,cap⟩,rfl⟩
 obtain⟨se,e3⟩:=hsl ty.Es h0;obtain⟨sk,e4⟩:=hsl ty.Ks h1
 simp at e2 e3 e4
 subst e2;subst e3;subst e4;exact⟨s,se,sk,rfl⟩
theorem tree_of_trod (ty:Types P tT tE tK tEs tKs tD tI tL tS):∀ (fuel:Nat) {cs:List Value} {x:DataW H×List MemPlace},DataW.trod enc P W 0 (fun _=>true) true fuel tT cs=some x→(∀ m∈x.1.weights P tT,m≤reachBytes) →
  ∃ (t:T) (se sk:SV),cs=[.slice se.A se.n se.c,.slice sk.A sk.n sk.c]∧RdT W W.heap.size t se sk∧LenT reachBytes t:=by
 intro fuel
 induction fuel using Nat.strongRecOn with
 | ind fuel ih=>
  intro cs x h hw;obtain⟨f0,f1,hT,t0,o0,t1,o1⟩:=ty.T;obtain⟨xs,n,rfl,rfl,hlen,hxl,hfs⟩:=DataW.trod_struct hT h;rw[ty.cT]at hlen
  obtain⟨c0,c1,rfl⟩:∃ c0 c1,cs=[c0,c1]:=by
   match cs,hlen with
   | [c0,c1],_=>exact⟨_,_,rfl⟩
  have h0:=hfs 0 f0 rfl;have h1:=hfs 1 f1 rfl;rw[t0,o0,ty.cEs,List.getElem?_eq_getElem (by rw[hxl];simp)]at h0;rw[t1,o1,ty.cKs,List.getElem?_eq_getElem (by rw[hxl];simp)]at h1
  simp at h0 h1
  obtain⟨x0,x1,rfl⟩:∃ x0 x1,xs=[x0,x1]:=by
   match xs,hxl with
   | [x0,x1],_=>exact⟨_,_,rfl⟩
  simp at h0 h1
  have hw0:∀ m∈x0.1.weights P tEs,m≤reachBytes:=fun m hm=>hw m (by simp only[DataW.weights,hT];simp[DataW.weightsEach,t0,t1,hm]);have hw1:∀ m∈x1.1.weights P tKs,m≤reachBytes:=fun m hm=>hw m (by simp only[DataW.weights,hT];simp[DataW.weightsEach,t0,t1,hm])
  obtain⟨se,f,e1,hfl,_,hse,_,_⟩:=row_of_trod ty.Es ty.cE (by omega) (fun n cs y _ hy u hu=>by
   obtain⟨e,rfl⟩:=ent_of_trod ty hy
   exact entC_one e u hu) h0
  simp at e1
  subst e1;obtain⟨es,he1,he2,_⟩:=rd_of_trod entC entC_len entC_one (by omega) ty.Es ty.cE (fun n cs y hy=>ent_of_trod ty hy) (A:=se.A) (len:=se.n) (cap:=se.c) (by simpa [Value.cells] using h0)
  have hkid:∀ m cs y,m<n→DataW.trod enc P W 0 (fun _=>true) true m tK cs=some y→(∀ q∈y.1.weights P tK,q≤reachBytes)→∃ (key:ByteArray) (t:T) (se sk:SV),cs=[.string key,.slice se.A se.n se.c,.slice sk.A sk.n sk.c]∧RdT W W.heap.size t se sk∧LenT reachBytes t:=by
   intro m cs y hm hy hwy;obtain⟨g0,g1,hK,u0,p0,u1,p1⟩:=ty.K;obtain⟨zs,m2,rfl,rfl,hl,hzl,hzs⟩:=DataW.trod_struct hK hy;rw[ty.cK]at hl
   obtain⟨d0,d1,d2,rfl⟩:∃ d0 d1 d2,cs=[d0,d1,d2]:=by
    match cs,hl with
    | [d0,d1,d2],_=>exact⟨_,_,_,rfl⟩
   have k0:=hzs 0 g0 rfl;have k1:=hzs 1 g1 rfl;rw[u0,p0,ty.cS,List.getElem?_eq_getElem (by rw[hzl];simp)]at k0;rw[u1,p1,ty.cT,List.getElem?_eq_getElem (by rw[hzl];simp)]at k1
   simp at k0 k1
   obtain⟨z0,z1,rfl⟩:∃ z0 z1,zs=[z0,z1]:=by
    match zs,hzl with
    | [z0,z1],_=>exact⟨_,_,rfl⟩
   simp at k0 k1
   obtain⟨s,e2,_,_⟩:=DataW.trod_string ty.S k0;obtain⟨t,se',sk',e3,hr,hln⟩:=ih m2 (by omega) k1 (fun q hq=>hwy q (by simp only[DataW.weights,hK];simp[DataW.weightsEach,u0,u1,hq]))
   simp at e2 e3
   obtain⟨rfl,rfl⟩:=e3;subst e2;exact⟨s,t,se',sk',rfl,hr,hln⟩
  obtain⟨sk,f2,e2,hfl2,hel,hsk,hrd,_⟩:=row_of_trod ty.Ks ty.cK (by omega) (fun m cs y hm hy u hu=>by
   obtain⟨q0,q1,q2,rfl⟩:=kid_cells ty hy
   simp at hu
   rcases hu with rfl | rfl | rfl <;> rfl) h1
  simp at e2
  subst e2
  have hex:∀ i,∃ k:ByteArray×T,i<sk.n→∃ se' sk':SV,f2 i=[.string k.1,.slice se'.A se'.n se'.c,.slice sk'.A sk'.n sk'.c]∧RdT W W.heap.size k.2 se' sk'∧LenT reachBytes k.2:=by
   intro i
   by_cases hi:i<sk.n
   ·obtain⟨m,y,hm,hy,hwy⟩:=hel i hi
    obtain⟨key,t,se',sk',e,hr⟩:=hkid m _ y hm hy (fun q hq=>hw1 q (hwy q hq));exact⟨(key,t),fun _=>⟨se',sk',e,hr⟩⟩
   ·exact⟨(ByteArray.empty,none_),fun h=>absurd h hi⟩
  obtain⟨kf,hkf⟩:=Classical.axiomOfChoice hex
  refine⟨.mk es ((List.range sk.n).map kf),se,sk,rfl,?_,
   .mk (by
    rw[he1]
    rcases Nat.eq_zero_or_pos se.n with h0 | h0
    ·omega
    ·obtain⟨m,hm,hle⟩:=hse h0
     have:=hw0 m hm
     exact Nat.le_trans (Nat.le_trans (by have:=Nat.mul_le_mul_left se.n ty.bE;omega) hle) this) (by
    rw[List.length_map,List.length_range]
    rcases Nat.eq_zero_or_pos sk.n with h0 | h0
    ·omega
    ·obtain⟨m,hm,hle⟩:=hsk h0
     have:=hw1 m hm
     exact Nat.le_trans (Nat.le_trans (by have:=Nat.mul_le_mul_left sk.n ty.bK;omega) hle) this) (fun k hk=>by
   obtain⟨i,hi,rfl⟩:=List.mem_map.1 hk;obtain⟨_,_,_,_,h⟩:=hkf i (List.mem_range.1 hi)
   exact h)⟩
  rw[rdT_mk];refine⟨he1,he2,by simp,_,hrd,fun i hi=>?_⟩
  have hi':i<sk.n:=by simpa using hi
  obtain⟨se',sk',e,hr,_⟩:=hkf i hi'
  have hat:∀ j,j<3→((List.range sk.n).flatMap f2)[i*3+j]?=(f2 i)[j]?:=fun j hj=>by
   have:=flat_at (f:=f2) (k:=3) hfl2 (List.range sk.n) i j (by rw[List.length_range];exact hi') hj
   rwa [List.getElem_range]at this
  have g0:=hat 0 (by omega);have g1:=hat 1 (by omega);have g2:=hat 2 (by omega);rw[e]at g0 g1 g2
  have hk:((List.range sk.n).map kf)[i]=kf i:=by simp
  rw[hk];exact⟨se',sk',g0,g1,g2,hr⟩
end
end Tr
end Go.Proofs.YtcbpgemiffmieaaGreat
namespace Go.Proofs.YtcbpgemiffmieaaGreat
namespace Cs
open Classical
section
variable {α κ:Type} (key:α→κ) (lt:κ→κ→Prop) (st:Option α→Option α→Option α)
noncomputable def mrg:List α→List α→List α
 | [],[]=>[]
 | x::a,[]=>(st (some x) none).toList++mrg a []
 | [],y::b=>(st none (some y)).toList++mrg [] b
 | x::a,y::b=>
  if lt (key x) (key y)then (st (some x) none).toList++mrg a (y::b)
  else if lt (key y) (key x)then (st none (some y)).toList++mrg (x::a) b
  else (st (some x) (some y)).toList++mrg a b
termination_by a b=>a.length+b.length
noncomputable def look (l:List α) (k:κ):Option α:=l.find? fun x=>decide (key x=k)
end
section
variable {α κ:Type} {key:α→κ} {lt:κ→κ→Prop} {st:Option α→Option α→Option α}
theorem look_nil (k:κ):look key [] k=none:=rfl
theorem look_cons_eq {x:α} {k:κ} (h:key x=k) (l:List α):look key (x::l) k=some x:=by
 unfold look;rw[List.find?_cons_of_pos (by simpa using h)]
theorem look_cons_ne {x:α} {k:κ} (h:¬key x=k) (l:List α):look key (x::l) k=look key l k:=by
 unfold look;rw[List.find?_cons_of_neg (by simpa using h)]
theorem look_none {l:List α} {k:κ} (h:∀ x∈l,¬key x=k):look key l k=none:=by
 unfold look;rw[List.find?_eq_none];intro x hx
 simpa using h x hx
theorem look_mem {l:List α} {k:κ} {x:α} (h:look key l k=some x):x∈l∧key x=k:=by
 unfold look at h;exact⟨List.mem_of_find?_eq_some h,by simpa using List.find?_some h⟩
theorem look_iff (T:Tot lt):∀ {l:List α},l.Pairwise (fun x y=>lt (key x) (key y))→∀ {x:α} {k:κ},(look key l k=some x↔x∈l∧key x=k)
 | [],_,x,k=>by simp[look]
 | y::l,h,x,k=>by
  rw[List.pairwise_cons]at h
  by_cases hy:key y=k
  ·rw[look_cons_eq hy]
   constructor
   ·intro e
    injection e with e;subst e;exact⟨List.mem_cons_self,hy⟩
   ·rintro⟨h1,h2⟩
    rcases List.mem_cons.1 h1 with rfl | h1
    ·rfl
    ·have:=h.1 x h1
     rw[hy,h2]at this;exact absurd this (T.irr _)
  ·rw[look_cons_ne hy,look_iff T h.2]
   constructor
   ·rintro⟨h1,h2⟩
    exact⟨List.mem_cons_of_mem _ h1,h2⟩
   ·rintro⟨h1,h2⟩
    rcases List.mem_cons.1 h1 with rfl | h1
    ·exact absurd h2 hy
    ·exact⟨h1,h2⟩
theorem mrg_nil:mrg key lt st [] []=[]:=by rw[mrg]
theorem mrg_left (x:α) (a:List α):mrg key lt st (x::a) []=(st (some x) none).toList++mrg key lt st a []:=by rw[mrg]
theorem mrg_right (y:α) (b:List α):mrg key lt st [] (y::b)=(st none (some y)).toList++mrg key lt st [] b:=by rw[mrg]
theorem mrg_lt {x y:α} (h:lt (key x) (key y)) (a b:List α):mrg key lt st (x::a) (y::b)=(st (some x) none).toList++mrg key lt st a (y::b):=by
 rw[mrg,if_pos h]
theorem mrg_gt {x y:α} (h:¬lt (key x) (key y)) (h2:lt (key y) (key x)) (a b:List α):mrg key lt st (x::a) (y::b)=(st none (some y)).toList++mrg key lt st (x::a) b:=by
 rw[mrg,if_neg h,if_pos h2]
theorem mrg_eq {x y:α} (h:¬lt (key x) (key y)) (h2:¬lt (key y) (key x)) (a b:List α):mrg key lt st (x::a) (y::b)=(st (some x) (some y)).toList++mrg key lt st a b:=by
 rw[mrg,if_neg h,if_neg h2]
inductive Step (key:α→κ) (lt:κ→κ→Prop):List α→List α→Option α→Option α→List α→List α→Prop where
 | left (x:α) (a:List α):Step key lt (x::a) [] (some x) none a []
 | right (y:α) (b:List α):Step key lt [] (y::b) none (some y) [] b
 | lt {x y:α} (a b:List α):lt (key x) (key y)→Step key lt (x::a) (y::b) (some x) none a (y::b)
 | gt {x y:α} (a b:List α):¬lt (key x) (key y)→lt (key y) (key x)→Step key lt (x::a) (y::b) none (some y) (x::a) b
 | eq {x y:α} (a b:List α):¬lt (key x) (key y)→¬lt (key y) (key x)→Step key lt (x::a) (y::b) (some x) (some y) a b
theorem step_some (a b:List α) (h:¬(a=[]∧b=[])):∃ ox oy a' b',Step key lt a b ox oy a' b':=by
 rcases a with _ | ⟨x,a⟩
 ·rcases b with _ | ⟨y,b⟩
  ·exact absurd ⟨rfl,rfl⟩ h
  ·exact⟨_,_,_,_,.right y b⟩
 ·rcases b with _ | ⟨y,b⟩
  ·exact⟨_,_,_,_,.left x a⟩
  ·by_cases h1:lt (key x) (key y)
   ·exact⟨_,_,_,_,.lt a b h1⟩
   ·by_cases h2:lt (key y) (key x)
    ·exact⟨_,_,_,_,.gt a b h1 h2⟩
    ·exact⟨_,_,_,_,.eq a b h1 h2⟩
theorem Step.mrg {a b a' b':List α} {ox oy:Option α} (h:Step key lt a b ox oy a' b'):mrg key lt st a b=(st ox oy).toList++Cs.mrg key lt st a' b':=by
 cases h with
 | left=>exact mrg_left _ _
 | right=>exact mrg_right _ _
 | lt h1=>exact mrg_lt (by assumption) _ _
 | gt h1 h2=>exact mrg_gt (by assumption) (by assumption) _ _
 | eq h1 h2=>exact mrg_eq (by assumption) (by assumption) _ _
theorem Step.less {a b a' b':List α} {ox oy:Option α} (h:Step key lt a b ox oy a' b'):a'.length+b'.length<a.length+b.length:=by
 cases h <;> simp <;> omega
theorem mrg_ind (P:List α→List α→Prop) (h0:P [] []) (h1:∀ a b ox oy a' b',Step key lt a b ox oy a' b'→P a' b'→P a b) (a b:List α):P a b:=by
 obtain⟨n,hn⟩:∃ n,n=a.length+b.length:=⟨_,rfl⟩
 induction n using Nat.strongRecOn generalizing a b with
 | ind n ih=>
  by_cases h:a=[]∧b=[]
  ·rw[h.1,h.2];exact h0
  ·obtain⟨ox,oy,a',b',hs⟩:=step_some (key:=key) (lt:=lt) a b h
   exact h1 _ _ _ _ _ _ hs (ih _ (by rw[hn];exact hs.less) a' b' rfl)
structure Keeps (key:α→κ) (st:Option α→Option α→Option α):Prop where
 zero:st none none=none
 left:∀ x z,st (some x) none=some z→key z=key x
 right:∀ y z,st none (some y)=some z→key z=key y
 both:∀ x y z,key x=key y→st (some x) (some y)=some z→key z=key x
def Up (key:α→κ) (lt:κ→κ→Prop) (l:List α):Prop:=l.Pairwise fun x y=>lt (key x) (key y)
theorem Step.up (T:Tot lt) {a b a' b':List α} {ox oy:Option α} (h:Step key lt a b ox oy a' b') (ha:Up key lt a) (hb:Up key lt b) :
  Up key lt a'∧Up key lt b'∧∃ k,(∀ x,ox=some x→key x=k)∧(∀ y,oy=some y→key y=k)∧(∀ x∈a',lt k (key x))∧(∀ y∈b',lt k (key y))∧(∀ j,look key a j=if j=k then ox else look key a' j)∧(∀ j,look key b j=if j=k then oy else look key b' j)∧¬(ox=none∧oy=none):=by
 have hl:∀ {x:α} {a:List α},Up key lt (x::a)→∀ j,look key (x::a) j=if j=key x then some x else look key a j:=fun {x a} _ j=>by
  by_cases e:j=key x
  ·rw[if_pos e,look_cons_eq e.symm]
  ·rw[if_neg e,look_cons_ne (fun h=>e h.symm)]
 have hn:∀ {a:List α} {k:κ},(∀ x∈a,lt k (key x))→∀ j,look key a j=if j=k then none else look key a j:=fun {a k} h j=>by
  by_cases e:j=k
  ·rw[if_pos e]
   exact look_none fun x hx hk=>T.irr k (by have:=h x hx;rwa [hk,e]at this)
  ·rw[if_neg e]
 cases h with
 | left x=>
  have h1:=List.pairwise_cons.1 ha;exact⟨h1.2,hb,key x,by simp,by simp,h1.1,by simp,hl ha,hn (by simp),by simp⟩
 | right y=>
  have h1:=List.pairwise_cons.1 hb;exact⟨ha,h1.2,key y,by simp,by simp,by simp,h1.1,hn (by simp),hl hb,by simp⟩
 | @lt x y a b hlt=>
  have h1:=List.pairwise_cons.1 ha;have h2:=List.pairwise_cons.1 hb
  have h3:∀ z∈y::b,lt (key x) (key z):=fun z hz=>by
   rcases List.mem_cons.1 hz with rfl | hz
   ·exact hlt
   ·exact T.tr _ _ _ hlt (h2.1 z hz)
  exact⟨h1.2,hb,key x,by simp,by simp,h1.1,h3,hl ha,hn h3,by simp⟩
 | @gt x y a b hn1 hlt=>
  have h1:=List.pairwise_cons.1 ha;have h2:=List.pairwise_cons.1 hb
  have h3:∀ z∈x::a,lt (key y) (key z):=fun z hz=>by
   rcases List.mem_cons.1 hz with rfl | hz
   ·exact hlt
   ·exact T.tr _ _ _ hlt (h1.1 z hz)
  exact⟨ha,h2.2,key y,by simp,by simp,h3,h2.1,hn h3,hl hb,by simp⟩
 | @eq x y a b hn1 hn2=>
  have h1:=List.pairwise_cons.1 ha;have h2:=List.pairwise_cons.1 hb
  have e:key x=key y:=by
   rcases T.tri (key x) (key y)with h | h | h
   ·exact absurd h hn1
   ·exact h
   ·exact absurd h hn2
  refine⟨h1.2,h2.2,key x,by simp,fun z hz=>?_,h1.1,fun z hz=>?_,hl ha,fun j=>?_,by simp⟩
  ·injection hz with hz
   rw[← hz,e]
  ·rw[e];exact h2.1 z hz
  ·rw[e];exact hl hb j
theorem Keeps.at_ {ox oy:Option α} {z:α} (K:Keeps key st) {k:κ} (hx:∀ x,ox=some x→key x=k) (hy:∀ y,oy=some y→key y=k) (h:st ox oy=some z):key z=k:=by
 cases ox with
 | none=>
  cases oy with
  | none=>rw[K.zero]at h;cases h
  | some y=>rw[K.right y z h];exact hy y rfl
 | some x=>
  cases oy with
  | none=>rw[K.left x z h];exact hx x rfl
  | some y=>rw[K.both x y z ((hx x rfl).trans (hy y rfl).symm) h];exact hx x rfl
theorem look_put {o:Option α} {l:List α} {k:κ} (h:∀ z,o=some z→key z=k) (hl:∀ z∈l,¬key z=k) (j:κ):look key (o.toList++l) j=if j=k then o else look key l j:=by
 cases o with
 | none=>
  show look key l j=_
  by_cases e:j=k
  ·rw[if_pos e,look_none fun z hz hk=>hl z hz (hk.trans e)]
  ·rw[if_neg e]
 | some z=>
  show look key (z::l) j=_
  by_cases e:j=k
  ·rw[if_pos e,look_cons_eq ((h z rfl).trans e.symm)]
  ·rw[if_neg e,look_cons_ne fun hz=>e (hz.symm.trans (h z rfl))]
theorem mrg_all (T:Tot lt) (K:Keeps key st) (a b:List α):Up key lt a→Up key lt b→Up key lt (mrg key lt st a b)∧(∀ k,(∀ x∈a,lt k (key x))→(∀ y∈b,lt k (key y))→∀ z∈mrg key lt st a b,lt k (key z))∧∀ k,look key (mrg key lt st a b) k=st (look key a k) (look key b k):=by
 refine mrg_ind (key:=key) (lt:=lt) (fun a b=>Up key lt a→Up key lt b→Up key lt (mrg key lt st a b)∧(∀ k,(∀ x∈a,lt k (key x))→(∀ y∈b,lt k (key y))→∀ z∈mrg key lt st a b,lt k (key z))∧∀ k,look key (mrg key lt st a b) k=st (look key a k) (look key b k)) ?_ ?_ a b
 ·intro _ _
  rw[mrg_nil];exact⟨List.Pairwise.nil,by simp,fun k=>by rw[look_nil];exact K.zero.symm⟩
 ·intro a b ox oy a' b' hs ih ha hb
  obtain⟨ha',hb',k,hx,hy,hka,hkb,la,lb,hno⟩:=hs.up T ha hb;obtain⟨i1,i2,i3⟩:=ih ha' hb';have hz:∀ z,st ox oy=some z→key z=k:=fun z h=>K.at_ hx hy h;have hr:=i2 k hka hkb;rw[hs.mrg];refine⟨?_,?_,fun j=>?_⟩
  ·cases ho:st ox oy with
   | none=>exact i1
   | some z=>
    refine List.pairwise_cons.2 ⟨fun y hy=>?_,i1⟩;rw[hz z ho];exact hr y hy
  ·intro j h1 h2 z hzm
   have hjk:lt j k:=by
    cases hox:ox with
    | some x=>
     rw[← hx x hox]
     have:look key a k=some x:=by rw[la,if_pos rfl,hox]
     exact h1 x (look_mem this).1
    | none=>
     cases hoy:oy with
     | some y=>
      rw[← hy y hoy]
      have:look key b k=some y:=by rw[lb,if_pos rfl,hoy]
      exact h2 y (look_mem this).1
     | none=>exact absurd ⟨hox,hoy⟩ hno
   rcases List.mem_append.1 hzm with hzm | hzm
   ·cases ho:st ox oy with
    | none=>rw[ho]at hzm;cases hzm
    | some y=>
     rw[ho]at hzm;rw[List.mem_singleton.1 hzm,hz y ho];exact hjk
   ·exact T.tr _ _ _ hjk (hr z hzm)
  ·rw[look_put hz (fun z hzm e=>T.irr k (by have:=hr z hzm;rwa [e]at this)) j,la,lb]
   by_cases e:j=k
   ·rw[if_pos e,if_pos e,if_pos e]
   ·rw[if_neg e,if_neg e,if_neg e]
    exact i3 j
theorem mrg_from (_K:st none none=none) (a b:List α):∀ z∈mrg key lt st a b,∃ ox oy,st ox oy=some z∧(∀ x,ox=some x→x∈a)∧(∀ y,oy=some y→y∈b)∧¬(ox=none∧oy=none):=by
 refine mrg_ind (key:=key) (lt:=lt) (fun a b=>∀ z∈mrg key lt st a b,∃ ox oy,st ox oy=some z∧(∀ x,ox=some x→x∈a)∧(∀ y,oy=some y→y∈b)∧¬(ox=none∧oy=none)) ?_ ?_ a b
 ·intro z hz
  rw[mrg_nil]at hz
  cases hz
 ·intro a b ox oy a' b' hs ih z hz
  rw[hs.mrg]at hz
  have hsub:(∀ x∈a',x∈a)∧(∀ y∈b',y∈b)∧(∀ x,ox=some x→x∈a)∧(∀ y,oy=some y→y∈b)∧¬(ox=none∧oy=none):=by
   cases hs <;> simp +contextual
  rcases List.mem_append.1 hz with hz | hz
  ·cases ho:st ox oy with
   | none=>rw[ho]at hz;cases hz
   | some y=>
    rw[ho]at hz;rw[List.mem_singleton.1 hz];exact⟨ox,oy,ho,hsub.2.2.1,hsub.2.2.2.1,hsub.2.2.2.2⟩
  ·obtain⟨px,py,h1,h2,h3,h4⟩:=ih z hz
   exact⟨px,py,h1,fun x hx=>hsub.1 x (h2 x hx),fun y hy=>hsub.2.1 y (h3 y hy),h4⟩
end
end Cs
end Go.Proofs.YtcbpgemiffmieaaGreat
namespace Go.Proofs.YtcbpgemiffmieaaGreat
namespace Cs
open Tr Cx Classical
def ltD (x y:Int×Int):Prop:=x.1<y.1∨(x.1=y.1∧x.2<y.2)
theorem tot_dot:Tot ltD:=by
 refine⟨fun a h=>?_,fun a b c h1 h2=>?_,fun a b=>?_⟩
 ·unfold ltD at h;omega
 ·unfold ltD at *;omega
 ·unfold ltD
  rcases a with ⟨a1,a2⟩
  rcases b with ⟨b1,b2⟩
  simp only[Prod.mk.injEq];omega
def keyE (e:E):Int×Int:=(e.a,e.n)
theorem ltE_key {x y:E} : ltE x y↔ltD (keyE x) (keyE y):=ltE_iff
theorem upE {es:List E} (h:es.Pairwise ltE):Up keyE ltD es:=h.imp fun h=>ltE_key.1 h
def ltV (x y:E):Prop:=x.v<y.v∨(x.v=y.v∧ltS x.s y.s)
theorem ltV_irr (x:E):¬ltV x x:=fun h=>by
 rcases h with h | h
 ·omega
 ·exact tot_str.irr _ h.2
theorem ltV_tr {x y z:E} (h1:ltV x y) (h2:ltV y z):ltV x z:=by
 unfold ltV at *
 rcases h1 with h1 | h1 <;> rcases h2 with h2 | h2
 ·exact .inl (by omega)
 ·exact .inl (by omega)
 ·exact .inl (by omega)
 ·exact .inr ⟨by omega,tot_str.tr _ _ _ h1.2 h2.2⟩
theorem ltV_tri (x y:E):ltV x y∨(x.v=y.v∧x.s=y.s)∨ltV y x:=by
 unfold ltV
 rcases tot_int.tri x.v y.v with h | h | h
 ·exact .inl (.inl h)
 ·rcases tot_str.tri x.s y.s with h2 | h2 | h2
  ·exact .inl (.inr ⟨h,h2⟩)
  ·exact .inr (.inl ⟨h,h2⟩)
  ·exact .inr (.inr (.inr ⟨h.symm,h2⟩))
 ·exact .inr (.inr (.inl h))
theorem ltV_le {x y z:E} (h1:¬ltV y x) (h2:¬ltV z y):¬ltV z x:=fun h3=>by
 rcases ltV_tri x y with h4 | h4 | h4
 ·exact h2 (ltV_tr h3 h4)
 ·apply h2
  unfold ltV at h3 ⊢;rw[← h4.1,← h4.2];exact h3
 ·exact h1 h4
noncomputable def grE (x y:E):E:=if ltV x y then y else x
theorem grE_or (x y:E):(ltV x y∧grE x y=y)∨(¬ltV x y∧grE x y=x):=by
 unfold grE
 by_cases h:ltV x y
 ·exact .inl ⟨h,if_pos h⟩
 ·exact .inr ⟨h,if_neg h⟩
theorem E.ext {x y:E} (h1:keyE x=keyE y) (h2:x.v=y.v) (h3:x.s=y.s):x=y:=by
 cases x;cases y
 simp only[keyE,Prod.mk.injEq]at h1
 simp_all
theorem grE_comm {x y:E} (h:keyE x=keyE y):grE x y=grE y x:=by
 rcases grE_or x y with ⟨h1,e1⟩ | ⟨h1,e1⟩ <;> rcases grE_or y x with ⟨h2,e2⟩ | ⟨h2,e2⟩
 ·exact absurd (ltV_tr h1 h2) (ltV_irr _)
 ·rw[e1,e2]
 ·rw[e1,e2]
 ·rw[e1,e2]
  rcases ltV_tri x y with h3 | h3 | h3
  ·exact absurd h3 h1
  ·exact E.ext h h3.1 h3.2
  ·exact absurd h3 h2
theorem grE_assoc (x y z:E):grE (grE x y) z=grE x (grE y z):=by
 rcases grE_or x y with ⟨h1,e1⟩ | ⟨h1,e1⟩ <;> rcases grE_or y z with ⟨h2,e2⟩ | ⟨h2,e2⟩ <;> rw[e1,e2]
 ·rcases grE_or x z with ⟨h3,e3⟩ | ⟨h3,e3⟩
  ·rw[e3]
  ·exact absurd (ltV_tr h1 h2) h3
 ·exact e1.symm
 ·rw[e1]
  rcases grE_or x z with ⟨h3,e3⟩ | ⟨h3,e3⟩
  ·exact absurd h3 (ltV_le h2 h1)
  ·exact e3
theorem grE_key {x y:E} (h:keyE x=keyE y):keyE (grE x y)=keyE x:=by
 rcases grE_or x y with ⟨_,e⟩ | ⟨_,e⟩ <;> rw[e]
 exact h.symm
noncomputable def stE (ca cb:List S3):Option E→Option E→Option E
 | some x,some y=>some (grE x y)
 | some x,none=>if hasC cb x.a x.n=true then none else some x
 | none,some y=>if hasC ca y.a y.n=true then none else some y
 | none,none=>none
theorem stE_left (ca cb:List S3) (x:E):stE ca cb (some x) none=if hasC cb x.a x.n=true then none else some x:=rfl
theorem stE_right (ca cb:List S3) (y:E):stE ca cb none (some y)=if hasC ca y.a y.n=true then none else some y:=rfl
theorem stE_both (ca cb:List S3) (x y:E):stE ca cb (some x) (some y)=some (grE x y):=rfl
theorem keepsE (ca cb:List S3):Keeps keyE (stE ca cb):=by
 refine⟨rfl,fun x z h=>?_,fun y z h=>?_,fun x y z hk h=>?_⟩
 ·rw[stE_left]at h
  split at h
  ·cases h
  ·injection h with h;rw[h]
 ·rw[stE_right]at h
  split at h
  ·cases h
  ·injection h with h;rw[h]
 ·rw[stE_both]at h
  injection h with h;rw[← h];exact grE_key hk
theorem stE_or {ca cb:List S3} {ox oy:Option E} {z:E} (h:stE ca cb ox oy=some z):ox=some z∨oy=some z:=by
 cases ox with
 | none=>
  cases oy with
  | none=>cases h
  | some y=>
   rw[stE_right]at h
   split at h
   ·cases h
   ·exact .inr h
 | some x=>
  cases oy with
  | none=>
   rw[stE_left]at h
   split at h
   ·cases h
   ·exact .inl h
  | some y=>
   rw[stE_both]at h;injection h with h
   rcases grE_or x y with ⟨_,e⟩ | ⟨_,e⟩ <;> rw[e]at h <;> rw[h]
   ·exact .inr rfl
   ·exact .inl rfl
abbrev Kd:=ByteArray×T
def keyK (k:Kd):ByteArray:=k.1
def EmptyT (t:T):Prop:=t.es=[]∧t.ks=[]
theorem EmptyT.eq {t:T} (h:EmptyT t):t=none_:=by rw[← T.eta t,h.1,h.2];rfl
theorem empty_none:EmptyT none_:=⟨rfl,rfl⟩
def treeOf:Option Kd→T | some k=>k.2 | none=>none_
def nameOf:Option Kd→Option Kd→ByteArray
 | some x,_=>x.1
 | none,some y=>y.1
 | none,none=>⟨#[]⟩
noncomputable def stK (f:T→T→T) (x y:Option Kd):Option Kd:=if EmptyT (f (treeOf x) (treeOf y))then none else some (nameOf x y,f (treeOf x) (treeOf y))
theorem stK_some {f:T→T→T} {x y:Option Kd} {z:Kd} (h:stK f x y=some z):¬EmptyT (f (treeOf x) (treeOf y))∧z=(nameOf x y,f (treeOf x) (treeOf y)):=by
 unfold stK at h
 split at h
 ·cases h
 ·rename_i hn
  injection h with h;exact⟨hn,h.symm⟩
theorem keepsK {f:T→T→T} (h0:f none_ none_=none_):Keeps keyK (stK f):=by
 refine⟨?_,fun x z h=>?_,fun y z h=>?_,fun x y z hk h=>?_⟩
 ·unfold stK treeOf
  rw[h0,if_pos empty_none]
 ·rw[(stK_some h).2];rfl
 ·rw[(stK_some h).2];rfl
 ·rw[(stK_some h).2];rfl
noncomputable def joinT:Nat→List S3→List S3→T→T→T
 | 0,_,_,_,_=>none_
 | d+1,ca,cb,a,b=>.mk (mrg keyE ltD (stE ca cb) a.es b.es) (mrg keyK ltS (stK (joinT d ca cb)) a.ks b.ks)
theorem joinT_none:∀ (d:Nat) (ca cb:List S3),joinT d ca cb none_ none_=none_
 | 0,_,_=>rfl
 | d+1,ca,cb=>by
  unfold joinT none_;show T.mk (mrg keyE ltD (stE ca cb) [] []) (mrg keyK ltS (stK (joinT d ca cb)) [] [])=_;rw[mrg_nil,mrg_nil]
noncomputable def entAt (t:T) (p:List ByteArray) (q:Int×Int):Option E:=look keyE (getT t p).es q
theorem entAt_key {t:T} {p:List ByteArray} {q:Int×Int} {e:E} (h:entAt t p q=some e):keyE e=q:=(look_mem h).2
theorem getT_no:∀ p:List ByteArray,getT none_ p=none_
 | []=>rfl
 | k::p=>by
  unfold getT;show getT (kidAt [] k) p=none_;exact getT_no p
theorem entAt_none (p:List ByteArray) (q:Int×Int):entAt none_ p q=none:=by
 unfold entAt;rw[getT_no];rfl
def RT (d:Nat) (t:T):Prop:=RightT d t∨t=none_
theorem RT.succ {d:Nat} {t:T} (h:RT (d+1) t):RightT (d+1) t:=by
 rcases h with h | rfl
 ·exact h
 ·exact RightT.none
theorem RT.kid {d:Nat} {es:List E} {ks:List Kd} (h:RightT (d+1) (.mk es ks)) (k:ByteArray):RT d (kidAt ks k):=by
 rcases kidAt_mem (ks:=ks) (key:=k)with ⟨x,h1,_,h3⟩ | ⟨_,h2⟩
 ·rw[h3];exact .inl (h.2.2.2 x h1).2.2
 ·rw[h2];exact .inr rfl
theorem kidAt_look:∀ (ks:List Kd) (k:ByteArray),kidAt ks k=treeOf (look keyK ks k)
 | [],k=>rfl
 | x::ks,k=>by
  unfold kidAt
  by_cases h:x.1=k
  ·rw[if_pos h,look_cons_eq (key:=keyK) h];rfl
  ·rw[if_neg h,look_cons_ne (key:=keyK) h];exact kidAt_look ks k
theorem kid_join {d:Nat} (ca cb:List S3) {ks ks2:List Kd} (h1:ks.Pairwise fun x y=>ltS x.1 y.1) (h2:ks2.Pairwise fun x y=>ltS x.1 y.1) (k:ByteArray):kidAt (mrg keyK ltS (stK (joinT d ca cb)) ks ks2) k=joinT d ca cb (kidAt ks k) (kidAt ks2 k):=by
 rw[kidAt_look,kidAt_look,kidAt_look,(mrg_all (key:=keyK) tot_str (keepsK (joinT_none d ca cb)) ks ks2 h1 h2).2.2 k];unfold stK
 split
 ·rename_i h
  rw[h.eq];rfl
 ·rfl
theorem ent_join:∀ (d:Nat) (ca cb:List S3) (a b:T),RT d a→RT d b→∀ (p:List ByteArray) (q:Int×Int),entAt (joinT d ca cb a b) p q=stE ca cb (entAt a p q) (entAt b p q)
 | 0,ca,cb,a,b,ha,hb,p,q=>by
  have e:∀ t:T,RT 0 t→t=none_:=fun t h=>by
   rcases h with h | h
   ·exact h.elim
   ·exact h
  rw[e a ha,e b hb,entAt_none];show entAt none_ p q=_;rw[entAt_none];rfl
 | d+1,ca,cb,.mk es ks,.mk es2 ks2,ha,hb,[],q=>by
  show look keyE (mrg keyE ltD (stE ca cb) es es2) q=stE ca cb (look keyE es q) (look keyE es2 q);exact (mrg_all (key:=keyE) tot_dot (keepsE ca cb) es es2 (upE ha.succ.2.1) (upE hb.succ.2.1)).2.2 q
 | d+1,ca,cb,.mk es ks,.mk es2 ks2,ha,hb,k::p,q=>by
  show entAt (kidAt (mrg keyK ltS (stK (joinT d ca cb)) ks ks2) k) p q=stE ca cb (entAt (kidAt ks k) p q) (entAt (kidAt ks2 k) p q);rw[kid_join ca cb ha.succ.2.2.1 hb.succ.2.2.1];exact ent_join d ca cb _ _ (RT.kid ha.succ k) (RT.kid hb.succ k) p q
theorem right_join:∀ (d:Nat) (ca cb:List S3) (a b:T),RightT d a→RightT d b→RightT d (joinT d ca cb a b)
 | 0,_,_,_,_,ha,_=>ha.elim
 | d+1,ca,cb,.mk es ks,.mk es2 ks2,ha,hb=>by
  have m1:=mrg_all (key:=keyE) tot_dot (keepsE ca cb) es es2 (upE ha.2.1) (upE hb.2.1);have m2:=mrg_all (key:=keyK) tot_str (keepsK (joinT_none d ca cb)) ks ks2 ha.2.2.1 hb.2.2.1;refine⟨fun e he=>?_,?_,?_,fun k hk=>?_⟩
  ·obtain⟨ox,oy,h1,h2,h3,_⟩:=mrg_from (key:=keyE) (lt:=ltD) (st:=stE ca cb) rfl es es2 e he
   rcases stE_or h1 with h | h
   ·exact ha.1 e (h2 e h)
   ·exact hb.1 e (h3 e h)
  ·exact m1.1.imp fun h=>ltE_key.2 h
  ·exact m2.1
  ·obtain⟨ox,oy,h1,h2,h3,h4⟩:=mrg_from (key:=keyK) (lt:=ltS) (st:=stK (joinT d ca cb)) (keepsK (joinT_none d ca cb)).zero ks ks2 k hk
   obtain⟨hne,rfl⟩:=stK_some h1
   have hT:∀ (o:Option Kd) (l:List Kd),(∀ x,o=some x→x∈l)→(∀ x∈l,RightT d x.2)→RT d (treeOf o):=fun o l ho hl=>by
    cases o with
    | none=>exact .inr rfl
    | some x=>exact .inl (hl x (ho x rfl))
   have hx:=hT ox ks h2 fun x hx=>(ha.2.2.2 x hx).2.2;have hy:=hT oy ks2 h3 fun x hx=>(hb.2.2.2 x hx).2.2;refine⟨?_,hne,?_⟩
   ·cases ox with
    | some x=>exact (ha.2.2.2 x (h2 x rfl)).1
    | none=>
     cases oy with
     | some y=>exact (hb.2.2.2 y (h3 y rfl)).1
     | none=>exact absurd ⟨rfl,rfl⟩ h4
   ·cases d with
    | zero=>
     have e:∀ t:T,RT 0 t→t=none_:=fun t h=>by
      rcases h with h | h
      ·exact h.elim
      ·exact h
     rw[e _ hx,e _ hy,joinT_none]at hne;exact absurd empty_none hne
    | succ d=>exact right_join (d+1) ca cb _ _ hx.succ hy.succ
theorem leaf_iff:∀ {d:Nat} {t:T},RightT d t→∀ (p:List ByteArray) (e:E),((p,e)∈leaves t↔entAt t p (keyE e)=some e)
 | 0,_,h,_,_=>h.elim
 | d+1,.mk es ks,h,[],e=>by
  have h1:(([]:List ByteArray),e)∈leaves (.mk es ks)↔e∈es:=by
   have:=rootE_leaves es ks;constructor
   ·intro hm
    rw[← this];unfold rootE;rw[List.mem_filterMap];exact⟨_,hm,rfl⟩
   ·intro hm
    rw[leaves_mk];exact List.mem_append_left _ (List.mem_map.2 ⟨e,hm,rfl⟩)
  rw[h1];show _↔look keyE es (keyE e)=some e;rw[look_iff tot_dot (upE h.2.1)];simp
 | d+1,.mk es ks,h,k::p,e=>by
  have h1:(k::p,e)∈leaves (.mk es ks)↔(p,e)∈leaves (kidAt ks k):=by
   have:=under_leaves h k;show _↔(p,e)∈leaves (kidAt (T.mk es ks).ks k);rw[← this];unfold under;rw[List.mem_filterMap];constructor
   ·intro hm
    exact⟨_,hm,by simp⟩
   ·rintro⟨⟨q,e2⟩,hm,hx⟩
    cases q with
    | nil=>cases hx
    | cons k2 q=>
     dsimp only at hx
     split at hx
     ·rename_i hk
      injection hx with hx;injection hx with hx1 hx2;rw[← hx1,← hx2,← hk];exact hm
     ·cases hx
  rw[h1];show _↔entAt (kidAt ks k) p (keyE e)=some e
  rcases RT.kid h k with hr | hn
  ·exact leaf_iff hr p e
  ·rw[hn,leaves_none,entAt_none]
   simp
theorem up_ext {α κ:Type} {key:α→κ} {lt:κ→κ→Prop} (T:Tot lt):∀ {l m:List α},Up key lt l→Up key lt m→(∀ k,look key l k=look key m k)→l=m
 | [],[],_,_,_=>rfl
 | [],y::m,_,_,h=>by have:=h (key y);rw[look_nil,look_cons_eq rfl]at this;cases this
 | x::l,[],_,_,h=>by have:=h (key x);rw[look_nil,look_cons_eq rfl]at this;cases this
 | x::l,y::m,hl,hm,h=>by
  have l1:=List.pairwise_cons.1 hl;have m1:=List.pairwise_cons.1 hm
  have e:key x=key y:=by
   rcases T.tri (key x) (key y)with h1 | h1 | h1
   ·have:=h (key x)
    rw[look_cons_eq rfl,look_none (l:=y::m)]at this
    ·cases this
    ·intro z hz hk
     rcases List.mem_cons.1 hz with rfl | hz
     ·rw[hk]at h1;exact T.irr _ h1
     ·have:=T.tr _ _ _ h1 (m1.1 z hz);rw[hk]at this;exact T.irr _ this
   ·exact h1
   ·have:=h (key y)
    rw[look_cons_eq (l:=m) rfl,look_none (l:=x::l)]at this
    ·cases this
    ·intro z hz hk
     rcases List.mem_cons.1 hz with rfl | hz
     ·rw[hk]at h1;exact T.irr _ h1
     ·have:=T.tr _ _ _ h1 (l1.1 z hz);rw[hk]at this;exact T.irr _ this
  have hxy:x=y:=by
   have:=h (key x);rw[look_cons_eq rfl,look_cons_eq e.symm]at this;injection this
  subst hxy
  congr 1
  refine up_ext T l1.2 m1.2 fun k=>?_
  by_cases hk:key x=k
  ·rw[look_none fun z hz hz2=>?_,look_none fun z hz hz2=>?_]
   ·have:=m1.1 z hz;rw[hz2,hk]at this;exact T.irr _ this
   ·have:=l1.1 z hz;rw[hz2,hk]at this;exact T.irr _ this
  ·have:=h k
   rwa [look_cons_ne hk,look_cons_ne hk]at this
theorem tree_ext:∀ {d:Nat} {t u:T},RT d t→RT d u→(∀ p q,entAt t p q=entAt u p q)→t=u
 | 0,t,u,ht,hu,_=>by
  have e:∀ t:T,RT 0 t→t=none_:=fun t h=>by
   rcases h with h | h
   ·exact h.elim
   ·exact h
  rw[e t ht,e u hu]
 | d+1,.mk es ks,.mk es2 ks2,ht,hu,h=>by
  have h1:=ht.succ;have h2:=hu.succ;have e1:es=es2:=up_ext tot_dot (upE h1.2.1) (upE h2.2.1) fun q=>h [] q;have ek:∀ k,kidAt ks k=kidAt ks2 k:=fun k=>tree_ext (RT.kid h1 k) (RT.kid h2 k) fun p q=>h (k::p) q
  have e2:ks=ks2:=by
   refine up_ext (key:=keyK) tot_str h1.2.2.1 h2.2.2.1 fun k=>?_;have hk:=ek k;rw[kidAt_look,kidAt_look]at hk;have hne:∀ (l:List Kd),(∀ x∈l,KeyOk x.1∧¬(x.2.es=[]∧x.2.ks=[])∧RightT d x.2)→∀ x,look keyK l k=some x→¬x.2=none_:=fun l hl x hx e=>(hl x (look_mem hx).1).2.1 (by rw[e];exact empty_none);have hname:∀ (l:List Kd) x,look keyK l k=some x→x.1=k:=fun l x hx=>(look_mem hx).2
   cases ha:look keyK ks k with
   | none=>
    cases hb:look keyK ks2 k with
    | none=>rfl
    | some y=>
     rw[ha,hb]at hk;exact absurd hk.symm (hne ks2 h2.2.2.2 y hb)
   | some x=>
    cases hb:look keyK ks2 k with
    | none=>
     rw[ha,hb]at hk;exact absurd hk (hne ks h1.2.2.2 x ha)
    | some y=>
     rw[ha,hb]at hk;have a1:=hname ks x ha;have b1:=hname ks2 y hb;have:x=y:=Prod.ext (a1.trans b1.symm) hk;rw[this]
  rw[e1,e2]
end Cs
end Go.Proofs.YtcbpgemiffmieaaGreat
namespace Go.Proofs.YtcbpgemiffmieaaGreat
namespace Cs
open Tr Cx Sp Classical
abbrev K:=T×List S3
structure RK (k:K):Prop where
 tree:RightT 5 k.1
 ctx:RightC k.2
 has:∀ x∈leaves k.1,hasC k.2 x.2.a x.2.n=true
noncomputable def rightKB (k:K):Bool:=decide (RK k)
theorem rightKB_iff {k:K} : rightKB k=true↔RK k:=decide_eq_true_iff
theorem not_cen {c:List S3} (h:RightC c) {d n:Int} (hd:¬Cen d):hasC c d n=false:=by
 unfold hasC
 have e:Cx.part c d=[]:=by
  rw[List.eq_nil_iff_forall_not_mem];intro r hr;have:=h.rise.mem _ (part_mem.1 hr)
  apply hd
  unfold Cen;dsimp only at this;omega
 rw[e];rfl
theorem ctx_ext {a b:List S3} (ha:RightC a) (hb:RightC b) (h:∀ d n,hasC a d n=hasC b d n):a=b:=extC ha hb fun d n _=>h d n
noncomputable def st (k:K) (p:List ByteArray) (q:Int×Int):Option (Option E):=if hasC k.2 q.1 q.2=true then some (entAt k.1 p q)else none
noncomputable def mx:Option (Option E)→Option (Option E)→Option (Option E)
 | none,y=>y
 | some x,none=>some x
 | some none,some _=>some none
 | some (some _),some none=>some none
 | some (some x),some (some y)=>some (some (grE x y))
theorem mx_none (y:Option (Option E)):mx none y=y:=by cases y <;> rfl
theorem none_mx (y:Option (Option E)):mx y none=y:=by rcases y with _ | _ | y <;> rfl
def At (q:Int×Int) (x:Option (Option E)):Prop:=∀ e,x=some (some e)→keyE e=q
theorem mx_comm {q:Int×Int} {x y:Option (Option E)} (hx:At q x) (hy:At q y):mx x y=mx y x:=by
 rcases x with _ | _ | x <;> rcases y with _ | _ | y <;> try rfl
 show some (some (grE x y))=some (some (grE y x));rw[grE_comm ((hx x rfl).trans (hy y rfl).symm)]
theorem mx_assoc (x y z:Option (Option E)):mx (mx x y) z=mx x (mx y z):=by
 rcases x with _ | _ | x <;> rcases y with _ | _ | y <;> rcases z with _ | _ | z <;> try rfl
 show some (some (grE (grE x y) z))=some (some (grE x (grE y z)));rw[grE_assoc]
theorem At.mx {q:Int×Int} {x y:Option (Option E)} (hx:At q x) (hy:At q y):At q (mx x y):=by
 rcases x with _ | _ | x <;> rcases y with _ | _ | y <;> intro e he
 ·cases he
 ·cases he
 ·exact hy e he
 ·cases he
 ·cases he
 ·cases he
 ·exact hx e he
 ·cases he
 ·have h1:some (some (grE x y))=some (some e):=he
  injection h1 with h1;injection h1 with h1;rw[← h1,grE_key ((hx x rfl).trans (hy y rfl).symm)];exact hx x rfl
theorem st_at (k:K) (p:List ByteArray) (q:Int×Int):At q (st k p q):=by
 intro e he;unfold st at he
 split at he
 ·injection he with he
  exact entAt_key he
 ·cases he
theorem RK.known {k:K} (h:RK k) {p:List ByteArray} {q:Int×Int} {e:E} (he:entAt k.1 p q=some e):hasC k.2 q.1 q.2=true:=by
 have hk:=entAt_key he;have:=h.has (p,e) ((leaf_iff h.tree p e).2 (by rw[hk];exact he))
 have e1:e.a=q.1:=by rw[← hk];rfl
 have e2:e.n=q.2:=by rw[← hk];rfl
 rw[← e1,← e2];exact this
theorem st_some {k:K} {p:List ByteArray} {q:Int×Int} (h:hasC k.2 q.1 q.2=true):st k p q=some (entAt k.1 p q):=by unfold st;rw[if_pos h]
theorem st_none {k:K} {p:List ByteArray} {q:Int×Int} (h:hasC k.2 q.1 q.2=false):st k p q=none:=by unfold st;rw[if_neg (by simp[h])]
theorem RK.unknown {k:K} (h:RK k) {p:List ByteArray} {q:Int×Int} (hq:hasC k.2 q.1 q.2=false):entAt k.1 p q=none:=by
 cases he:entAt k.1 p q with
 | none=>rfl
 | some e=>rw[h.known he]at hq;cases hq
theorem ext_st {a b:K} (ha:RK a) (hb:RK b) (h:∀ p q,st a p q=st b p q):a=b:=by
 have hc:∀ d n,hasC a.2 d n=hasC b.2 d n:=fun d n=>by
  have:=h [] (d,n)
  cases h1:hasC a.2 d n with
  | true=>
   cases h2:hasC b.2 d n with
   | true=>rfl
   | false=>rw[st_some (q:=(d,n)) h1,st_none (q:=(d,n)) h2]at this;cases this
  | false=>
   cases h2:hasC b.2 d n with
   | false=>rfl
   | true=>rw[st_none (q:=(d,n)) h1,st_some (q:=(d,n)) h2]at this;cases this
 refine Prod.ext (tree_ext (d:=5) (.inl ha.tree) (.inl hb.tree) fun p q=>?_) (ctx_ext ha.ctx hb.ctx hc)
 cases h1:hasC a.2 q.1 q.2 with
 | true=>
  have:=h p q;rw[st_some h1,st_some (by rw[← hc];exact h1)]at this;injection this
 | false=>rw[ha.unknown h1,hb.unknown (by rw[← hc];exact h1)]
structure IsJ (a b x:K):Prop where
 tree:x.1=joinT 5 a.2 b.2 a.1 b.1
 ctx:PutC (fun x y=>x||y) a.2 b.2 x.2
theorem IsJ.eq {a b x y:K} (h:IsJ a b x) (h2:IsJ a b y):x=y:=Prod.ext (h.tree.trans h2.tree.symm) (h.ctx.eq h2.ctx)
theorem IsJ.hasC {a b x:K} (ha:RK a) (hb:RK b) (h:IsJ a b x) (d n:Int):hasC x.2 d n=(hasC a.2 d n||hasC b.2 d n):=by
 by_cases hd:Cen d
 ·exact h.ctx.has d n hd
 ·rw[not_cen h.ctx.right hd,not_cen ha.ctx hd,not_cen hb.ctx hd];rfl
theorem st_two {a b:K} (ha:RK a) (hb:RK b) (p:List ByteArray) (q:Int×Int):mx (st a p q) (st b p q)=if (Cx.hasC a.2 q.1 q.2||Cx.hasC b.2 q.1 q.2)=true then some (stE a.2 b.2 (entAt a.1 p q) (entAt b.1 p q))else none:=by
 cases h1:Cx.hasC a.2 q.1 q.2 with
 | false=>
  rw[st_none h1,mx_none]
  cases h2:Cx.hasC b.2 q.1 q.2 with
  | false=>rw[st_none h2];rfl
  | true=>
   rw[st_some h2,ha.unknown h1];show _=some _
   cases hy:entAt b.1 p q with
   | none=>rfl
   | some y=>
    have hk:=entAt_key hy
    have e1:Cx.hasC a.2 y.a y.n=false:=by rw[show y.a=q.1 by rw[← hk];rfl,show y.n=q.2 by rw[← hk];rfl];exact h1
    rw[stE_right,if_neg (by simp[e1])]
 | true=>
  rw[st_some h1]
  cases h2:Cx.hasC b.2 q.1 q.2 with
  | false=>
   rw[st_none h2,none_mx,hb.unknown h2];show _=some _
   cases hx:entAt a.1 p q with
   | none=>rfl
   | some x=>
    have hk:=entAt_key hx
    have e1:Cx.hasC b.2 x.a x.n=false:=by rw[show x.a=q.1 by rw[← hk];rfl,show x.n=q.2 by rw[← hk];rfl];exact h2
    rw[stE_left,if_neg (by simp[e1])]
  | true=>
   rw[st_some h2];show _=some _
   cases hx:entAt a.1 p q with
   | none=>
    cases hy:entAt b.1 p q with
    | none=>rfl
    | some y=>
     have hk:=entAt_key hy
     have e1:Cx.hasC a.2 y.a y.n=true:=by rw[show y.a=q.1 by rw[← hk];rfl,show y.n=q.2 by rw[← hk];rfl];exact h1
     rw[stE_right,if_pos e1];rfl
   | some x=>
    have hk:=entAt_key hx
    have e1:Cx.hasC b.2 x.a x.n=true:=by rw[show x.a=q.1 by rw[← hk];rfl,show x.n=q.2 by rw[← hk];rfl];exact h2
    cases hy:entAt b.1 p q with
    | none=>rw[stE_left,if_pos e1];rfl
    | some y=>rfl
theorem IsJ.ent {a b x:K} (ha:RK a) (hb:RK b) (h:IsJ a b x) (p:List ByteArray) (q:Int×Int):entAt x.1 p q=stE a.2 b.2 (entAt a.1 p q) (entAt b.1 p q):=by
 rw[h.tree];exact ent_join 5 a.2 b.2 a.1 b.1 (.inl ha.tree) (.inl hb.tree) p q
theorem IsJ.right {a b x:K} (ha:RK a) (hb:RK b) (h:IsJ a b x):RK x:=by
 have ht:RightT 5 x.1:=by rw[h.tree];exact right_join 5 _ _ _ _ ha.tree hb.tree
 refine⟨ht,h.ctx.right,fun y hy=>?_⟩;have h1:=(leaf_iff ht y.1 y.2).1 hy;rw[h.ent ha hb]at h1;rw[h.hasC ha hb]
 rcases stE_or h1 with h2 | h2
 ·have:=ha.known h2
  rw[show Cx.hasC a.2 y.2.a y.2.n=true from this];rfl
 ·have:=hb.known h2
  rw[show Cx.hasC b.2 y.2.a y.2.n=true from this,Bool.or_true]
theorem IsJ.st {a b x:K} (ha:RK a) (hb:RK b) (h:IsJ a b x) (p:List ByteArray) (q:Int×Int):Cs.st x p q=mx (Cs.st a p q) (Cs.st b p q):=by
 rw[st_two ha hb];unfold Cs.st;rw[h.hasC ha hb,h.ent ha hb]
def noneK:K:=(none_,[])
theorem right_noneC:RightC []:=⟨trivial,fun d _=>by rw[part_nil];trivial⟩
theorem right_noneK:RK noneK:=⟨RightT.none (d:=4),right_noneC,fun x hx=>by
 have:x∈leaves none_:=hx;rw[leaves_none]at this
 cases this⟩
theorem st_noneK (p:List ByteArray) (q:Int×Int):st noneK p q=none:=st_none rfl
theorem join_none {a x:K} (ha:RK a) (h:IsJ noneK a x):x=a:=ext_st (h.right right_noneK ha) ha fun p q=>by rw[h.st right_noneK ha,st_noneK,mx_none]
noncomputable def stAll (l:List K) (p:List ByteArray) (q:Int×Int):Option (Option E):=l.foldr (fun k y=>mx (st k p q) y) none
theorem stAll_append (a b:List K) (p:List ByteArray) (q:Int×Int):stAll (a++b) p q=mx (stAll a p q) (stAll b p q):=by
 induction a with
 | nil=>show _=mx none _;rw[mx_none];rfl
 | cons k a ih=>
  show mx (st k p q) (stAll (a++b) p q)=mx (mx (st k p q) (stAll a p q)) (stAll b p q);rw[ih,mx_assoc]
theorem stAll_one (k:K) (p:List ByteArray) (q:Int×Int):stAll [k] p q=st k p q:=none_mx _
theorem stAll_at (l:List K) (p:List ByteArray) (q:Int×Int):At q (stAll l p q):=by
 induction l with
 | nil=>intro e he;cases he
 | cons k l ih=>exact (st_at k p q).mx ih
theorem stAll_reverse (l:List K) (p:List ByteArray) (q:Int×Int):stAll l.reverse p q=stAll l p q:=by
 induction l with
 | nil=>rfl
 | cons k l ih=>
  rw[List.reverse_cons,stAll_append,stAll_one,ih];exact mx_comm (stAll_at l p q) (st_at k p q)
structure AllJ (l:List K) (x:K):Prop where
 right:RK x
 st:∀ p q,Cs.st x p q=stAll l p q
theorem AllJ.eq {l:List K} {x y:K} (h:AllJ l x) (h2:AllJ l y):x=y:=ext_st h.right h2.right fun p q=>(h.st p q).trans (h2.st p q).symm
theorem AllJ.nil:AllJ [] noneK:=⟨right_noneK,fun p q=>st_noneK p q⟩
theorem AllJ.app {a b:List K} {x y z:K} (h:AllJ a x) (h2:AllJ b y) (hj:IsJ x y z):AllJ (a++b) z:=⟨hj.right h.right h2.right,fun p q=>by rw[hj.st h.right h2.right,stAll_append,h.st,h2.st]⟩
theorem AllJ.one {k:K} (h:RK k):AllJ [k] k:=⟨h,fun p q=>(stAll_one k p q).symm⟩
theorem AllJ.reverse {l:List K} {x:K} (h:AllJ l x):AllJ l.reverse x:=⟨h.right,fun p q=>by rw[stAll_reverse];exact h.st p q⟩
end Cs
end Go.Proofs.YtcbpgemiffmieaaGreat
namespace Go.Proofs.YtcbpgemiffmieaaGreat
open Go.ChangeShapes Go.WideShapes Go.ChangeAt Go.RowKit
namespace Cs
open Tr Cx Sp
end Cs
end Go.Proofs.YtcbpgemiffmieaaGreat
namespace Go.Proofs.YtcbpgemiffmieaaGreat
open Go.ChangeShapes Go.WideShapes Go.ChangeAt Go.RowKit
namespace Sp
end Sp
end Go.Proofs.YtcbpgemiffmieaaGreat
namespace Go.Proofs.YtcbpgemiffmieaaGreat
open Go.RowKit
namespace Sp
theorem run_apps {w:World} {base n m c c':Nat} {A A':Option Addr} {xs ys:List Int} (ho:Own w base 2 1 A n c (intsC xs)) (hr:Rd w w.heap.size 1 A' m c' (intsC ys)) (hn:n+m≤1000000) (hb:base≤w.heap.size) :
  ∃ A2 c2 w2,(Builtin.append_ #[168,168] 168 #[.slice A n c,.slice A' m c']).run Tryz.prog w = .ok (.slice A2 (n+m) c2) w2∧Own w2 base 2 1 A2 (n+m) c2 (intsC (xs++ys))∧Below base w w2:=by
 obtain⟨i0,hi0,hz0,hz1,hz2⟩:=info_of infoI;obtain⟨v',w',h1,h2,h3,h4⟩:=run_app (P:=Tryz.prog) w base 168 168 2 i0 _ 1 8 Tryz.underlying168 hi0 hz0 hz1 hz2 rfl (by omega) ho.row hr hn (by omega) hb;rw[← intsC_append]at h2;obtain⟨A2,c2,rfl,h5⟩:=Own.of_row h2 (intsC_one _);exact⟨A2,c2,w',h1,h5,(Below.refl base w).grown h3 hb (fun k hk=>(ho.row.lt k hk).1)⟩
theorem nil_or_snoc (l:List (Int×Int)):l=[]∨∃ d r,l=d++[r]:=by
 by_cases h:l=[]
 ·exact .inl h
 ·exact .inr ⟨_,_,(List.dropLast_concat_getLast h).symm⟩
theorem ends_mem {l:List (Int×Int)} {r:Int×Int} (h:r∈l):r.1∈endsL l∧r.2+1∈endsL l:=⟨List.mem_flatMap.2 ⟨r,h,by simp⟩,List.mem_flatMap.2 ⟨r,h,by simp⟩⟩
theorem has_between {l:List (Int×Int)} {u n:Int} (hu:u≤n) (h:∀ x∈endsL l,u<x→n<x):hasB l n=hasB l u:=by
 have key:∀ r∈l,(r.1≤n∧n≤r.2)↔(r.1≤u∧u≤r.2):=fun r hr=>by
  obtain⟨m1,m2⟩:=ends_mem hr;have h1:=h _ m1;have h2:=h _ m2;omega
 cases hx:hasB l u with
 | true=>
  obtain⟨r,hr,h2⟩:=has_true.1 hx;exact has_true.2 ⟨r,hr,(key r hr).2 h2⟩
 | false=>exact has_false.2 fun r hr h2=>has_false.1 hx r hr ((key r hr).1 h2)
theorem cnt_step:∀ {L:List Int} {t u:Int},t∈L→t<u→L.countP (fun x=>decide (x<t))+1≤L.countP (fun x=>decide (x<u))
 | [],_,_,h,_=>by simp at h
 | x::L,t,u,h,hu=>by
  have mono:L.countP (fun x=>decide (x<t))≤L.countP (fun x=>decide (x<u)):=List.countP_mono_left (fun y _ hy=>by simp at hy ⊢;omega);rw[List.countP_cons,List.countP_cons]
  by_cases hx:x=t
  ·subst hx
   have e1:decide (x<x)=false:=by simp
   have e2:decide (x<u)=true:=by simpa using hu
   simp only[e1,e2,if_true,Bool.false_eq_true,if_false];omega
  ·have h':t∈L:=by
    rcases List.mem_cons.1 h with h | h
    ·exact absurd h.symm hx
    ·exact h
   have ih:=cnt_step h' hu
   by_cases h1:x<t
   ·have e1:decide (x<t)=true:=by simpa using h1
    have e2:decide (x<u)=true:=by simp;omega
    simp only[e1,e2,if_true];omega
   ·have e1:decide (x<t)=false:=by simpa using h1
    simp only[e1,Bool.false_eq_true,if_false]
    split <;> omega
theorem ends_bounds {l:List (Int×Int)} (h:RightF 1 l) {x:Int} (hx:x∈endsL l):1≤x∧x≤1099511627777:=by
 obtain⟨r,hr,hx⟩:=List.mem_flatMap.1 hx;have:=h.mem r hr
 simp at hx
 omega
structure ByInv (f:Bool→Bool→Bool) (a b out:List (Int×Int)) (t:Int) (ok:Bool):Prop where
 right:RightF 1 out
 on:ok=true→t∈endsL a++endsL b∧1≤t∧t≤1099511627777∧(∀ r∈out,r.2<t)∧(∀ n,n<t→hasB out n=f (hasB a n) (hasB b n))∧out.length≤(endsL a++endsL b).countP (fun x=>decide (x<t))
 off:ok=false→∀ n,hasB out n=f (hasB a n) (hasB b n)
theorem between_both {a b:List (Int×Int)} {u n:Int} (hu:u≤n) (h:∀ x∈endsL a++endsL b,u<x→n<x):hasB a n=hasB a u∧hasB b n=hasB b u:=
 ⟨has_between hu fun x hx=>h x (List.mem_append_left _ hx),has_between hu fun x hx=>h x (List.mem_append_right _ hx)⟩
theorem ByInv.zero {f:Bool→Bool→Bool} (hf:f false false=false) {a b:List (Int×Int)} (ha:RightF 1 a) (hb:RightF 1 b):ByInv f a b [] ((nextL 0 (endsL a++endsL b)).getD 0) (nextL 0 (endsL a++endsL b)).isSome:=by
 have hN:=nextL_is 0 (endsL a++endsL b);have h0:∀ n,n≤0→hasB a n=false∧hasB b n=false:=fun n hn=>⟨has_lt ha (by omega),has_lt hb (by omega)⟩
 cases hx:nextL 0 (endsL a++endsL b)with
 | none=>
  rw[hx]at hN;refine⟨trivial,fun h=>(by cases h),fun _ n=>?_⟩
  rcases (by omega:n≤0∨0<n)with hn | hn
  ·rw[(h0 n hn).1,(h0 n hn).2,hf];rfl
  ·obtain⟨e1,e2⟩:=between_both (a:=a) (b:=b) (u:=0) (n:=n) (by omega) (fun x hx h=>by have:=hN x hx;omega)
   rw[e1,e2,(h0 0 (by omega)).1,(h0 0 (by omega)).2,hf];rfl
 | some t=>
  rw[hx]at hN;obtain⟨h1,h2,h3⟩:=hN
  have hb':1≤t∧t≤1099511627777:=by
   rcases List.mem_append.1 h1 with h | h
   ·exact ends_bounds ha h
   ·exact ends_bounds hb h
  refine⟨trivial,fun _=>⟨h1,hb'.1,hb'.2,by simp,fun n hn=>?_,Nat.zero_le _⟩,fun h=>by cases h⟩;show hasB [] n=_
  rcases (by omega:n≤0∨0<n)with hn0 | hn0
  ·rw[(h0 n hn0).1,(h0 n hn0).2,hf];rfl
  ·obtain⟨e1,e2⟩:=between_both (a:=a) (b:=b) (u:=0) (n:=n) (by omega) (fun x hx h=>by have:=h3 x hx h;have hn:n<t:=hn;omega)
   rw[e1,e2,(h0 0 (by omega)).1,(h0 0 (by omega)).2,hf];rfl
section
variable {f:Bool→Bool→Bool} {a b out:List (Int×Int)} {t:Int}
theorem ByInv.last (hf:f false false=false) (ha:RightF 1 a) (hb:RightF 1 b) (h:ByInv f a b out t true) (hN:nextL t (endsL a++endsL b)=none):f (hasB a t) (hasB b t)=false∧∀ u,ByInv f a b out u false:=by
 have hN':=nextL_is t (endsL a++endsL b);rw[hN]at hN';obtain⟨h1,h2,h3,h4,h5,h6⟩:=h.on rfl;have hbt:∀ n,t≤n→hasB a n=hasB a t∧hasB b n=hasB b t:=fun n hn=>between_both hn (fun x hx h=>by have:=hN' x hx;omega)
 have hz:f (hasB a t) (hasB b t)=false:=by
  obtain⟨e1,e2⟩:=hbt 1099511627778 (by omega);rw[← e1,← e2,has_gt ha (by omega),has_gt hb (by omega),hf]
 refine⟨hz,fun u=>⟨h.right,fun h=>(by cases h),fun _ n=>?_⟩⟩
 rcases (by omega:n<t∨t≤n)with hn | hn
 ·exact h5 n hn
 ·obtain⟨e1,e2⟩:=hbt n hn
  rw[e1,e2,hz]
  exact has_false.2 fun r hr=>by have:=h4 r hr;omega
theorem ByInv.next {u:Int} (ha:RightF 1 a) (hb:RightF 1 b) (h:ByInv f a b out t true) (hN:nextL t (endsL a++endsL b)=some u) :
  t<u∧1≤t∧u≤1099511627777∧(f (hasB a t) (hasB b t)=false→ByInv f a b out u true) ∧
  (f (hasB a t) (hasB b t)=true→(∀ r∈out,r.2+2≤t)→ByInv f a b (out++[(t,u-1)]) u true) ∧
  (f (hasB a t) (hasB b t)=true→∀ d s,out=d++[(s,t-1)]→ByInv f a b (d++[(s,u-1)]) u true):=by
 have hN':=nextL_is t (endsL a++endsL b);rw[hN]at hN';obtain⟨g1,g2,g3⟩:=hN';obtain⟨h1,h2,h3,h4,h5,h6⟩:=h.on rfl;have hbt:∀ n,t≤n→n<u→hasB a n=hasB a t∧hasB b n=hasB b t:=fun n hn hnu=>between_both hn (fun x hx h=>by have:=g3 x hx h;omega)
 have hub:1≤u∧u≤1099511627777:=by
  rcases List.mem_append.1 g1 with h | h
  ·exact ends_bounds ha h
  ·exact ends_bounds hb h
 have hcnt:=cnt_step h1 g2
 have hno:∀ n,t≤n→hasB out n=false:=fun n hn=>has_false.2 fun r hr=>by have:=h4 r hr;omega
 refine⟨g2,h2,hub.2,fun hin=>?_,fun hin hgap=>?_,fun hin d s hd=>?_⟩
 ·refine⟨h.right,fun _=>⟨g1,hub.1,hub.2,fun r hr=>by have:=h4 r hr;omega,fun n hn=>?_,by omega⟩,fun h=>by cases h⟩
  rcases (by omega:n<t∨t≤n)with hn' | hn'
  ·exact h5 n hn'
  ·obtain⟨e1,e2⟩:=hbt n hn' hn
   rw[e1,e2,hin,hno n hn']
 ·refine⟨h.right.snoc hgap h2 (by show t≤u-1;omega) (by show u-1≤_;omega),fun _=>⟨g1,hub.1,hub.2,fun r hr=>?_,fun n hn=>?_,by rw[List.length_append,List.length_singleton];omega⟩,fun h=>by cases h⟩
  ·rcases List.mem_append.1 hr with hr | hr
   ·have:=h4 r hr;omega
   ·rw[List.mem_singleton.1 hr];show u-1<u;omega
  ·rw[has_append,has_cons,has_nil,Bool.or_false]
   rcases (by omega:n<t∨t≤n)with hn' | hn'
   ·have e:decide (t≤n∧n≤u-1)=false:=by simp;omega
    rw[e,Bool.or_false];exact h5 n hn'
   ·obtain⟨e1,e2⟩:=hbt n hn' hn
    have e:decide (t≤n∧n≤u-1)=true:=by simp;omega
    rw[e1,e2,hin,e,Bool.or_true]
 ·subst hd
  obtain⟨k1,k2,k3,k4,k5⟩:=h.right.of_snoc;dsimp only at k2 k3 k4 k5;refine⟨k1.snoc k2 k3 (by show s≤u-1;omega) (by show u-1≤_;omega),fun _=>⟨g1,hub.1,hub.2,fun r hr=>?_,fun n hn=>?_,by rw[List.length_append,List.length_singleton]at h6 ⊢;omega⟩,fun h=>by cases h⟩
  ·rcases List.mem_append.1 hr with hr | hr
   ·have:=h4 r (List.mem_append_left _ hr);omega
   ·rw[List.mem_singleton.1 hr];show u-1<u;omega
  ·rw[has_append,has_cons,has_nil,Bool.or_false]
   rcases (by omega:n<t∨t≤n)with hn' | hn'
   ·have e5:=h5 n hn'
    rw[has_append,has_cons,has_nil,Bool.or_false]at e5
    have e:decide (s≤n∧n≤u-1)=decide (s≤n∧n≤t-1):=by
     congr 1
     exact propext ⟨fun h=>⟨h.1,by omega⟩,fun h=>⟨h.1,by omega⟩⟩
    rw[e];exact e5
   ·obtain⟨e1,e2⟩:=hbt n hn' hn
    have e:decide (s≤n∧n≤u-1)=true:=by simp;omega
    rw[e1,e2,hin,e,Bool.or_true]
end
structure OfInv (ns:List Int) (out:List (Int×Int)) (t:Int) (ok:Bool):Prop where
 right:RightF 1 out
 on:ok=true→t∈ns∧(∀ r∈out,r.2<t)∧(∀ n,hasB out n=true↔(n∈ns∧n<t))∧out.length≤ns.countP (fun x=>decide (x<t))
 off:ok=false→∀ n,hasB out n=true↔n∈ns
theorem OfInv.zero {ns:List Int} (hb:∀ x∈ns,1≤x∧x≤1099511627776):OfInv ns [] ((nextL 0 ns).getD 0) (nextL 0 ns).isSome:=by
 have hN:=nextL_is 0 ns
 cases hx:nextL 0 ns with
 | none=>
  rw[hx]at hN;refine⟨trivial,fun h=>(by cases h),fun _ n=>⟨fun h=>(by cases h),fun h=>?_⟩⟩;have:=hN n h;have:=hb n h;omega
 | some t=>
  rw[hx]at hN;obtain⟨h1,h2,h3⟩:=hN;refine⟨trivial,fun _=>⟨h1,by simp,fun n=>⟨fun h=>(by cases h),fun h=>?_⟩,Nat.zero_le _⟩,fun h=>by cases h⟩;have h':n<t:=h.2;have:=h3 n h.1 (by have:=hb n h.1;omega);omega
section
variable {ns:List Int} {out:List (Int×Int)} {t:Int}
theorem OfInv.one (_hb:∀ x∈ns,1≤x∧x≤1099511627776) (h:OfInv ns out t true) (out':List (Int×Int)) (hr:RightF 1 out') (he:∀ r∈out',r.2≤t) (hh:∀ n,hasB out' n=(hasB out n||decide (n=t))) (hl:out'.length≤out.length+1) :
  OfInv ns out' ((nextL t ns).getD 0) (nextL t ns).isSome:=by
 have hN:=nextL_is t ns;obtain⟨h1,h2,h3,h4⟩:=h.on rfl
 have key:∀ n,hasB out' n=true↔(n∈ns∧n≤t):=fun n=>by
  rw[hh,Bool.or_eq_true,h3 n,decide_eq_true_eq];constructor
  ·rintro (h | rfl)
   ·exact⟨h.1,by omega⟩
   ·exact⟨h1,Int.le_refl _⟩
  ·rintro⟨ha,hb⟩
   rcases (by omega:n<t∨n=t)with h | h
   ·exact .inl ⟨ha,h⟩
   ·exact .inr h
 cases hx:nextL t ns with
 | none=>
  rw[hx]at hN;refine⟨hr,fun h=>(by cases h),fun _ n=>(key n).trans ⟨fun h=>h.1,fun h=>⟨h,hN n h⟩⟩⟩
 | some u=>
  rw[hx]at hN;obtain⟨g1,g2,g3⟩:=hN;have hcnt:=cnt_step h1 g2;refine⟨hr,fun _=>⟨g1,fun r hr=>?_,fun n=>(key n).trans ⟨fun h=>⟨h.1,?_⟩,fun h=>⟨h.1,?_⟩⟩,?_⟩,fun h=>by cases h⟩
  ·have:=he r hr
   show r.2<u;omega
  ·show n<u
   omega
  ·have h':n<u:=h.2
   rcases (by omega:n≤t∨t<n)with h2 | h2
   ·exact h2
   ·have:=g3 n h.1 h2;omega
  ·show out'.length≤ns.countP (fun x=>decide (x<u))
   omega
theorem OfInv.push (hb:∀ x∈ns,1≤x∧x≤1099511627776) (h:OfInv ns out t true) (hg:∀ r∈out,r.2+2≤t):OfInv ns (out++[(t,t)]) ((nextL t ns).getD 0) (nextL t ns).isSome:=by
 obtain⟨h1,h2,h3,h4⟩:=h.on rfl;have hbt:=hb t h1;refine h.one hb _ (h.right.snoc hg hbt.1 (Int.le_refl _) hbt.2) (fun r hr=>?_) (fun n=>?_) (by simp)
 ·rcases List.mem_append.1 hr with hr | hr
  ·have:=h2 r hr;omega
  ·rw[List.mem_singleton.1 hr];exact Int.le_refl _
 ·rw[has_append,has_cons,has_nil,Bool.or_false]
  congr 2
  exact propext ⟨fun h=>by dsimp only at h;omega,fun h=>⟨by dsimp only;omega,by dsimp only;omega⟩⟩
theorem OfInv.grow {d:List (Int×Int)} {s:Int} (hb:∀ x∈ns,1≤x∧x≤1099511627776) (h:OfInv ns (d++[(s,t-1)]) t true):OfInv ns (d++[(s,t)]) ((nextL t ns).getD 0) (nextL t ns).isSome:=by
 obtain⟨h1,h2,h3,h4⟩:=h.on rfl;have hbt:=hb t h1;obtain⟨k1,k2,k3,k4,k5⟩:=h.right.of_snoc;dsimp only at k2 k3 k4 k5;refine h.one hb _ (k1.snoc k2 k3 (by show s≤t;omega) hbt.2) (fun r hr=>?_) (fun n=>?_) (by simp)
 ·rcases List.mem_append.1 hr with hr | hr
  ·have:=h2 r (List.mem_append_left _ hr);omega
  ·rw[List.mem_singleton.1 hr];exact Int.le_refl _
 ·rw[has_append,has_append,has_cons,has_cons,has_nil,Bool.or_false,Bool.or_false,Bool.or_assoc]
  congr 1
  rw[← Bool.decide_or]
  congr 1
  exact propext ⟨fun h=>by dsimp only at h ⊢;omega,fun h=>by dsimp only at h ⊢;omega⟩
end
end Sp
end Go.Proofs.YtcbpgemiffmieaaGreat
namespace Go.Proofs.YtcbpgemiffmieaaGreat
open Go.ChangeShapes Go.WideShapes Go.ChangeAt Go.RowKit
namespace Sp
def SetIs (ns:List Int) (l:List (Int×Int)):Prop:=RightF 1 l∧∀ n,hasB l n=true↔n∈ns
theorem SetIs.eq {ns:List Int} {a b:List (Int×Int)} (ha:SetIs ns a) (hb:SetIs ns b):a=b:=ext ha.1 hb.1 fun n=>by
 rw[Bool.eq_iff_iff,ha.2 n,hb.2 n]
set_option maxRecDepth 100000 in
set_option maxHeartbeats 4000000 in
theorem refof_any (ns:List Int) (n:Nat) (A:Option Addr) (c:Nat) (w:World) (hl:ns.length=n) (hn:n≤100000) (hr:Rd w w.heap.size 1 A n c (intsC ns)) (hb:∀ x∈ns,1≤x∧x≤1099511627776) :
  Calls Tryz.prog 125 #[.slice A n c] w fun e w'=>∃ l A' c',e = .returned (.slice A' l.length c')∧SetIs ns l∧Own w' w.heap.size 138 2 A' l.length c' (runsC l)∧Below w.heap.size w w':=by
 have HL:=Lib.hid hl;have HBD:=Lib.hid hb;have HN:=fun v W (h:Below w.heap.size w W)=>Lib.hid (next_any ns n A c W hl (by omega) ((hr.below h).more h.size) v);have HZ:=Lib.hid (OfInv.zero hb);clear hl hr hb;obtain⟨t0,ht0⟩:∃ t,t=(nextL 0 ns).getD 0:=⟨_,rfl⟩;obtain⟨k0,hk0⟩:∃ k,k=(nextL 0 ns).isSome:=⟨_,rfl⟩;have HN0:=HN 0 w (Below.refl _ _);rw[← ht0,← hk0]at HZ HN0;clear ht0 hk0;go_enter Tryz.func125,Tryz.ntmps125;go_wp2_with fail;refine HN0.out.mono ?_;rintro e w3 ⟨rfl,rfl⟩;clear HN0;go_wp2
 go_loopw [3,4,5] (fun lv tv kv wr=>∃ (q:Nat) (A':Option Addr) (c':Nat) (out:List (Int×Int)) (t:Int) (ok:Bool),lv = .slice A' q c'∧tv = .int .i64 t∧kv = .bool ok∧Hid (q=out.length)∧Hid (OfInv ns out t ok)∧Hid (Own wr w3.heap.size 138 2 A' q c' (runsC out))∧Hid (Below w3.heap.size w3 wr)) (fun _ tv kv _=>match kv with | .bool true=>(1099511627780-intOf tv).toNat | _=>0)
 case atStart=>exact⟨0,none,0,[],t0,k0,rfl,rfl,rfl,rfl,HZ.out,⟨World.ownsRow_nil _ _ _ _,by simp[runsC]⟩,Below.refl _ _⟩
 case round=>
  obtain⟨q,A',c',out,t,ok,rfl,rfl,rfl,HQ,HI,HO,HB⟩:=hrel
  cases ok with
  | false=>
   have HF:=Lib.hid (HI.out.off rfl);have HRT:=Lib.hid HI.out.right;have hq:=HQ.out;subst hq;go_wp2;go_ret;exact⟨out,_,_,rfl,⟨HRT.out,HF.out⟩,HO.out,HB.out⟩
  | true=>
   obtain⟨ht0,htl,_,htc⟩:=HI.out.on rfl;obtain⟨ht1,ht2⟩:=HBD.out t ht0
   have hlen:out.length≤100000:=by
    have:=List.countP_le_length (p:=fun x=>decide (x<t)) (l:=ns);rw[HL.out]at this;omega
   obtain⟨t',ht'⟩:∃ t',t'=(nextL t ns).getD 0:=⟨_,rfl⟩;obtain⟨k',hk'⟩:∃ k',k'=(nextL t ns).isSome:=⟨_,rfl⟩
   have HM:Hid (k'=true→t<t'∧t'≤1099511627776):=fun hk=>by
    have hN:=nextL_is t ns
    cases hx:nextL t ns with
    | none=>rw[hk',hx]at hk;cases hk
    | some u=>
     rw[hx]at hN ht';rw[ht'];exact⟨hN.2.1,(HBD.out u hN.1).2⟩
   have HNX:=fun W (h:Below w3.heap.size w3 W)=>HN t W h;rw[← ht',← hk']at HNX;have hgap:∀ r∈out,r.2<t:=htl;clear htc htl ht0
   rcases nil_or_snoc out with rfl | ⟨dd,r,rfl⟩
   ·have hq:q=0:=HQ.out
    subst hq;have HY:=Lib.hid (HI.out.push HBD.out (by simp));rw[← ht',← hk']at HY;obtain⟨A2,c2,w2',hrun2,ho2',hb2'⟩:=push_run Tryz.underlying102 infoP wr w3.heap.size wr.heap.size rfl HB.out.size _ ([]:List (Int×Int)) HO.out.row t t (by omega);have Hrun2:=Lib.hid hrun2;have HO2:=Lib.hid ho2';have HB2:=Lib.hid (HB.out.trans hb2');obtain⟨q2,hq2⟩:∃ q2,q2=(([]:List (Int×Int))++[(t,t)]).length:=⟨_,rfl⟩;rw[← hq2]at Hrun2 HO2;have HQ2:=Lib.hid hq2;clear hrun2 ho2' hb2' hq2 ht' hk' hgap;go_wp2_with (at_builtin;refine Lib.wpList_append_run _ rfl _ _ _ _ rfl _ _ rfl rfl _ _ Hrun2.out ?_);go_wp2_with fail;refine (HNX _ HB2.out).out.mono ?_;rintro e wr' ⟨rfl,rfl⟩;go_wp2;go_roundw
    case rel=>exact⟨q2,A2,c2,([]:List (Int×Int))++[(t,t)],t',k',rfl,rfl,rfl,HQ2.out,HY.out,HO2.out,HB2.out⟩
    case measure=>cases k' <;> simp[intOf] <;> (try have:=(HM.out rfl)) <;> omega
   ·obtain⟨s,e0⟩:=r
    by_cases he:e0=t-1
    ·subst he
     have HY:=Lib.hid (HI.out.grow HBD.out);rw[← ht',← hk']at HY;obtain⟨D,hD⟩:∃ D,D=dd.length:=⟨_,rfl⟩
     have hq:q=D+1:=by rw[hD];have:=HQ.out;simpa using this
     subst hq
     have hD2:D≤400000:=by rw[List.length_append,List.length_singleton]at hlen;omega
     obtain⟨g,rfl,hgb,hgl,hfz,hcell⟩:=Own.place HO.out (by omega)
     have hcl:wr.cell? ⟨g,D*2+1,none⟩=some (.int .i64 (t-1)):=by
      have:=(runsC_at (dd++[(s,(t-1))]) D (by simp[hD])).2;rw[show (dd++[(s,(t-1))])[D]'(by simp[hD])=(s,(t-1)) from by simp[hD]]at this;exact hcell _ _ this
     have hfz:=hfz (D*2+1)
     have HO2:Hid (Own (wr.setCell ⟨g,D*2+1,none⟩ (.int .i64 t)) w3.heap.size 138 2 (some ⟨g,0,none⟩) (D+1) c' (runsC (dd++[(s,t)]))):=by
      rw[hD];exact own_close (by rw[← hD];exact HO.out)
     have HB2:Hid (Below w3.heap.size w3 (wr.setCell ⟨g,D*2+1,none⟩ (.int .i64 t))):=HB.out.setCell hgb _
     have HQ2:Hid (D+1=(dd++[(s,t)]).length):=by unfold Hid;rw[hD];simp
     clear hcell hD ht' hk' hgap hlen;go_wp2_with fail;refine (HNX _ HB2.out).out.mono ?_;rintro e wr' ⟨rfl,rfl⟩;go_wp2;go_roundw
     case rel=>exact⟨D+1,_,c',dd++[(s,t)],t',k',rfl,rfl,rfl,HQ2.out,HY.out,HO2.out,HB2.out⟩
     case measure=>cases k' <;> simp[intOf] <;> (try have:=(HM.out rfl)) <;> omega
    ·have f5:(e0==t-1)=false:=by simpa using he
     have HY:=Lib.hid (HI.out.push HBD.out (fun r hr=>by
      obtain⟨_,j2,_,j4,_⟩:=HI.out.right.of_snoc;dsimp only at j2 j4;have k5:e0<t:=hgap (s,e0) (by simp)
      rcases List.mem_append.1 hr with hr | hr
      ·have:=j2 r hr;omega
      ·rw[List.mem_singleton.1 hr];show e0+2≤t;omega))
     rw[← ht',← hk']at HY;obtain⟨D,hD⟩:∃ D,D=dd.length:=⟨_,rfl⟩
     have hq:q=D+1:=by rw[hD];have:=HQ.out;simpa using this
     subst hq
     have hD2:D≤400000:=by rw[List.length_append,List.length_singleton]at hlen;omega
     obtain⟨g,rfl,hgb,hgl,hfz,hcell⟩:=Own.place HO.out (by omega)
     have hcl:wr.cell? ⟨g,D*2+1,none⟩=some (.int .i64 e0):=by
      have:=(runsC_at (dd++[(s,e0)]) D (by simp[hD])).2;rw[show (dd++[(s,e0)])[D]'(by simp[hD])=(s,e0) from by simp[hD]]at this;exact hcell _ _ this
     have eD:(dd++[(s,e0)]).length=D+1:=by simp[hD]
     have hown:wr.ownsRow w3.heap.size 138 2 (.slice (some ⟨g,0,none⟩) (D+1) c') (dd++[(s,e0)]).length (runsC (dd++[(s,e0)])):=by rw[eD];exact HO.out.row
     obtain⟨A2,c2,w2',hrun2,ho2',hb2'⟩:=push_run Tryz.underlying102 infoP wr w3.heap.size wr.heap.size rfl HB.out.size _ (dd++[(s,e0)]) hown t t (by omega);have Hrun2:=Lib.hid hrun2;have HO2:=Lib.hid ho2';have HB2:=Lib.hid (HB.out.trans hb2');obtain⟨q2,hq2⟩:∃ q2,q2=((dd++[(s,e0)])++[(t,t)]).length:=⟨_,rfl⟩;rw[← hq2]at Hrun2 HO2;have HQ2:=Lib.hid hq2;clear hrun2 ho2' hb2' hq2 ht' hk' hgap;clear hown eD hfz hcell hD he hlen;go_wp2_with (at_builtin;refine Lib.wpList_append_run _ rfl _ _ _ _ rfl _ _ rfl rfl _ _ Hrun2.out ?_);go_wp2_with fail;refine (HNX _ HB2.out).out.mono ?_;rintro e wr' ⟨rfl,rfl⟩;go_wp2;go_roundw
     case rel=>exact⟨q2,A2,c2,(dd++[(s,e0)])++[(t,t)],t',k',rfl,rfl,rfl,HQ2.out,HY.out,HO2.out,HB2.out⟩
     case measure=>cases k' <;> simp[intOf] <;> (try have:=(HM.out rfl)) <;> omega
end Sp
end Go.Proofs.YtcbpgemiffmieaaGreat
namespace Go.Proofs.YtcbpgemiffmieaaGreat
open Go.Shelf
namespace Sp
def sortI_ren:Go.Shelf.Ren:=⟨fun | 53=>159 | 64=>165 | 63=>164 | 78=>177 | 79=>178 | 70=>168 | 71=>169 | 72=>170 | 73=>171 | 74=>172 | 75=>173 | 59=>174 | 76=>175 | 77=>176 | 88=>179 | 89=>180 | 90=>181 | 91=>182 | 92=>183 | 68=>157 | 96=>184 | n=>n,fun | 22=>168 | 23=>2 | 3=>3 | 51=>191 | 0=>0 | 67=>229 | 69=>159 | 4=>4 | 61=>221 | 60=>220 | 44=>226 | 5=>5 | 9=>9 | 75=>231 | 79=>235 | 83=>237 | 84=>238 | n=>n,fun | n=>n⟩
theorem sortI:Go.Proofs.SlLaysN.n53 Tryz.prog sortI_ren:={
 mixed:=by kernel_rfl
 f53:=⟨Tryz.f159.name,by decide,Tryz.func159.trans (congrArg some (by kernel_rfl))⟩
 f59:=⟨Tryz.f174.name,by decide,Tryz.func174.trans (congrArg some (by kernel_rfl))⟩
 f63:=⟨Tryz.f164.name,by decide,Tryz.func164.trans (congrArg some (by kernel_rfl))⟩
 f64:=Tryz.func165.trans (congrArg some (by kernel_rfl))
 f68:=⟨Tryz.f157.name,by decide,Tryz.func157.trans (congrArg some (by kernel_rfl))⟩
 f70:=⟨Tryz.f168.name,by decide,Tryz.func168.trans (congrArg some (by kernel_rfl))⟩
 f71:=⟨Tryz.f169.name,by decide,Tryz.func169.trans (congrArg some (by kernel_rfl))⟩
 f72:=⟨Tryz.f170.name,by decide,Tryz.func170.trans (congrArg some (by kernel_rfl))⟩
 f73:=⟨Tryz.f171.name,by decide,Tryz.func171.trans (congrArg some (by kernel_rfl))⟩
 f74:=⟨Tryz.f172.name,by decide,Tryz.func172.trans (congrArg some (by kernel_rfl))⟩
 f75:=⟨Tryz.f173.name,by decide,Tryz.func173.trans (congrArg some (by kernel_rfl))⟩
 f76:=⟨Tryz.f175.name,by decide,Tryz.func175.trans (congrArg some (by kernel_rfl))⟩
 f77:=⟨Tryz.f176.name,by decide,Tryz.func176.trans (congrArg some (by kernel_rfl))⟩
 f78:=Tryz.func177.trans (congrArg some (by kernel_rfl))
 f79:=Tryz.func178.trans (congrArg some (by kernel_rfl))
 f88:=⟨Tryz.f179.name,by decide,Tryz.func179.trans (congrArg some (by kernel_rfl))⟩
 f89:=Tryz.func180.trans (congrArg some (by kernel_rfl))
 f90:=Tryz.func181.trans (congrArg some (by kernel_rfl))
 f91:=⟨Tryz.f182.name,by decide,Tryz.func182.trans (congrArg some (by kernel_rfl))⟩
 f92:=⟨Tryz.f183.name,by decide,Tryz.func183.trans (congrArg some (by kernel_rfl))⟩
 f96:=⟨Tryz.f184.name,by decide,Tryz.func184.trans (congrArg some (by kernel_rfl))⟩
 t0:=Tryz.underlying0
 a0:=Tryz.isAgg0
 z0:=Tryz.sizeOf0
 v0:=Tryz.zeroValue0
 t3:=Tryz.underlying3
 a3:=Tryz.isAgg3
 z3:=Tryz.sizeOf3
 v3:=Tryz.zeroValue3
 t4:=Tryz.underlying4
 a4:=Tryz.isAgg4
 z4:=Tryz.sizeOf4
 v4:=Tryz.zeroValue4
 t5:=Tryz.underlying5
 a5:=Tryz.isAgg5
 z5:=Tryz.sizeOf5
 v5:=Tryz.zeroValue5
 t9:=Tryz.underlying9
 a9:=Tryz.isAgg9
 z9:=Tryz.sizeOf9
 v9:=Tryz.zeroValue9
 t22:=Tryz.underlying168
 a22:=Tryz.isAgg168
 z22:=Tryz.sizeOf168
 v22:=Tryz.zeroValue168
 t23:=Tryz.underlying2
 a23:=Tryz.isAgg2
 z23:=Tryz.sizeOf2
 v23:=Tryz.zeroValue2
 t44:=Tryz.underlying226
 a44:=Tryz.isAgg226
 z44:=Tryz.sizeOf226
 v44:=Tryz.zeroValue226
 t51:=Tryz.underlying191
 a51:=Tryz.isAgg191
 z51:=Tryz.sizeOf191
 v51:=Tryz.zeroValue191
 t60:=Tryz.underlying220
 a60:=Tryz.isAgg220
 z60:=Tryz.sizeOf220
 v60:=Tryz.zeroValue220
 t61:=Tryz.underlying221
 a61:=Tryz.isAgg221
 z61:=Tryz.sizeOf221
 v61:=Tryz.zeroValue221
 t67:=Tryz.underlying229
 a67:=Tryz.isAgg229
 z67:=Tryz.sizeOf229
 v67:=Tryz.zeroValue229
 t69:=Tryz.underlying159
 a69:=Tryz.isAgg159
 z69:=Tryz.sizeOf159
 v69:=Tryz.zeroValue159
 t75:=Tryz.underlying231
 a75:=Tryz.isAgg231
 z75:=Tryz.sizeOf231
 v75:=Tryz.zeroValue231
 t79:=Tryz.underlying235
 a79:=Tryz.isAgg235
 z79:=Tryz.sizeOf235
 v79:=Tryz.zeroValue235
 t83:=Tryz.underlying237
 a83:=Tryz.isAgg237
 z83:=Tryz.sizeOf237
 v83:=Tryz.zeroValue237
 t84:=Tryz.underlying238
 a84:=Tryz.isAgg238
 z84:=Tryz.sizeOf238
 v84:=Tryz.zeroValue238 }
end Sp
end Go.Proofs.YtcbpgemiffmieaaGreat
namespace Go.Proofs.YtcbpgemiffmieaaGreat
open Go.ChangeShapes Go.WideShapes Go.ChangeAt Go.RowKit
namespace Sp
def srt (ns:List Int):List Int:=ns.mergeSort fun x y=>decide (x≤y)
theorem srt_len (ns:List Int):(srt ns).length=ns.length:=List.length_mergeSort _
theorem srt_mem {ns:List Int} {x:Int} : x∈srt ns↔x∈ns:=List.mem_mergeSort
theorem srt_le (ns:List Int) {i j:Nat} (hi:i<j) (hj:j<(srt ns).length):(srt ns)[i]≤(srt ns)[j]:=by
 have h:=List.pairwise_mergeSort (le:=fun x y:Int=>decide (x≤y)) (by intro a b c;simp;omega) (by intro a b;simp;omega) ns;exact of_decide_eq_true (List.pairwise_iff_getElem.1 h i j (Nat.lt_trans hi hj) hj hi)
theorem own_emptyI (w:World):Own (w.alloc (.cells #[] 2)) w.heap.size 2 1 (some ⟨w.heap.size,0,none⟩) 0 0 (intsC []):=
 ⟨⟨rfl,.inr ⟨w.heap.size,0,#[],rfl,Nat.le_refl _,heap_alloc_new _ _,Nat.le_refl _,by simp[maxLen],rfl,rfl⟩⟩,by simp[intsC]⟩
set_option maxHeartbeats 400000 in
theorem clone_any (ns:List Int) (n:Nat) (A:Option Addr) (c:Nat) (w:World) (hl:ns.length=n) (hn:n≤900000) (hr:Rd w w.heap.size 1 A n c (intsC ns)) :
  Calls Tryz.prog 158 #[.slice A n c] w fun e w'=>∃ A' c',e = .returned (.slice A' n c')∧Own w' w.heap.size 2 1 A' n c' (intsC ns)∧Below w.heap.size w w':=by
 have hnil:∀ (W:World) (a:Option Addr) (n c n' c':Nat),(binOp .eql 168 (.slice a n c) (.slice none n' c')).run Tryz.prog W = .ok (.bool a.isNone) W:=fun W a n c n' c'=>Lib.run_eql_slice_nil W _ _ a n c n' c' Tryz.underlying168
 cases A with
 | none=>
  have hn0:n=0:=by
   rcases Nat.eq_zero_or_pos n with h | h
   ·exact h
   ·obtain⟨b,o,e,_⟩:=hr.at_ h
    cases e
  subst hn0;have:ns=[]:=List.eq_nil_of_length_eq_zero hl;subst this;clear hr hl;go_enter Tryz.func158,Tryz.ntmps158;go_wp2;go_ret;exact⟨none,0,rfl,⟨World.ownsRow_nil _ _ _ _,by simp[intsC]⟩,Below.refl _ _⟩
 | some a=>
  obtain⟨A2,c2,w2,hrun,ho,hb⟩:=run_apps (own_emptyI w) ((hr.alloc (Nat.le_refl _) (.cells #[] 2)).more (by simp)) (by omega) (by simp);rw[List.nil_append,Nat.zero_add]at ho;rw[Nat.zero_add]at hrun;have Hrun:=Lib.hid hrun;have HO:=Lib.hid ho;have HB:=Lib.hid (((Below.refl w.heap.size w).alloc (Nat.le_refl _) (.cells #[] 2)).trans hb);clear hr hl hrun ho hb;go_enter Tryz.func158,Tryz.ntmps158;go_wp2_with (at_builtin;refine Lib.wpList_append_run _ rfl _ _ _ _ rfl _ _ rfl rfl _ _ Hrun.out ?_);go_ret;exact⟨A2,c2,rfl,HO.out,HB.out⟩
theorem sort_own (ns:List Int) (n:Nat) (A:Option Addr) (c base:Nat) (w:World) (hl:ns.length=n) (hn:n≤900000) (ho:Own w base 2 1 A n c (intsC ns)) (hb:base≤w.heap.size) :
  Calls Tryz.prog 159 #[.slice A n c] w fun e w'=>e = .returned (.tuple #[])∧Own w' base 2 1 A n c (intsC (srt ns))∧Below base w w':=by
 rcases Nat.eq_zero_or_pos n with h0 | h0
 ·subst h0
  have:ns=[]:=List.eq_nil_of_length_eq_zero hl;subst this;refine (Go.Proofs.AnyG.slices_Sort_int_none sortI A c w).mono ?_;rintro e w' ⟨rfl,rfl⟩;exact⟨rfl,by rw[show srt []=[] from List.mergeSort_nil];exact ho,Below.refl _ _⟩
 ·subst hl
  rcases ho.row.2 with ⟨_,h⟩ | ⟨g,cap,cur,hv,hg,hh,h1,h2,h3,h4⟩
  ·omega
  ·injection hv with e1 _ e3
   subst e1;subst e3;rw[Nat.mul_one]at h4;refine (Go.Proofs.AnyG.slices_Sort_int sortI g 0 c ns w (holds_of_blockI hh h4) (Array.getElem?_eq_some_iff.1 hh).1 (by omega)).mono ?_;rintro e w' ⟨rfl,k,os,rfl⟩;refine⟨rfl,⟨?_,intsC_one _⟩,(Below.refl base w).grown (grownBy_sortedI _) hb (fun k hk=>by injection hk with hk;omega)⟩;exact ownsRow_sortedI (List.length_mergeSort _) hg hh h1 h2 h3
structure OfP (ys:List Int) (k:Nat) (out:List (Int×Int)):Prop where
 right:RightF 1 out
 has:∀ n,hasB out n=true↔n∈ys.take k
 len:out.length≤k
 last:∀ (j:Nat) (h:j<ys.length),k=j+1→∃ d s,out=d++[(s,ys[j])]
theorem OfP.zero (ys:List Int):OfP ys 0 []:=⟨trivial,fun n=>by simp[hasB],Nat.zero_le _,fun j _ h=>by omega⟩
theorem OfP.first {ys:List Int} (h:0<ys.length) (hb:1≤ys[0]∧ys[0]≤1099511627776):OfP ys 1 [(ys[0],ys[0])]:=by
 refine⟨⟨hb.1,Int.le_refl _,hb.2,trivial⟩,fun n=>?_,by simp,fun j hj e=>?_⟩
 ·rw[List.take_one,List.head?_eq_getElem?,List.getElem?_eq_getElem h]
  simp[hasB];omega
 ·obtain rfl:j=0:=by omega
  exact⟨[],ys[0],rfl⟩
theorem OfP.push {ys _d:List Int} {out:List (Int×Int)} {j:Nat} (h:OfP ys (j+1) out) (hj:j+1<ys.length) (hle:ys[j]+1<ys[j+1]) (hb:ys[j+1]≤1099511627776):OfP ys (j+1+1) (out++[(ys[j+1],ys[j+1])]):=by
 obtain⟨d,s,hd⟩:=h.last j (by omega) rfl;have hr:=h.right;rw[hd]at hr;obtain⟨k1,k2,k3,k4,k5⟩:=hr.of_snoc;dsimp only at k2 k3 k4 k5;refine⟨h.right.snoc (fun q hq=>?_) (by show 1≤ys[j+1];omega) (Int.le_refl _) hb,fun n=>?_,by have:=h.len;simp;omega,fun i hi e=>?_⟩
 ·show q.2+2≤ys[j+1]
  rw[hd]at hq
  rcases List.mem_append.1 hq with hq | hq
  ·have:=k2 q hq;omega
  ·rw[List.mem_singleton.1 hq];show ys[j]+2≤_;omega
 ·rw[has_append,Bool.or_eq_true,h.has n,List.take_succ_eq_append_getElem hj,List.mem_append,has_cons,has_nil,Bool.or_false,List.mem_singleton,decide_eq_true_eq]
  dsimp only;constructor
  ·rintro (h | h)
   ·exact .inl h
   ·right;omega
  ·rintro (h | h)
   ·exact .inl h
   ·right;omega
 ·obtain rfl:i=j+1:=by omega
  exact⟨out,ys[j+1],rfl⟩
theorem OfP.grow {ys:List Int} {d:List (Int×Int)} {s:Int} {j:Nat} (hj:j+1<ys.length) (h:OfP ys (j+1) (d++[(s,ys[j])])) (hle:ys[j]≤ys[j+1]) (hle2:ys[j+1]≤ys[j]+1) (hb:ys[j+1]≤1099511627776):OfP ys (j+1+1) (d++[(s,ys[j+1])]):=by
 obtain⟨k1,k2,k3,k4,k5⟩:=h.right.of_snoc;dsimp only at k2 k3 k4 k5;refine⟨k1.snoc k2 k3 (by show s≤ys[j+1];omega) hb,fun n=>?_,by have:=h.len;simp at this ⊢;omega,fun i hi e=>?_⟩
 ·have h1:=h.has n
  rw[has_append,Bool.or_eq_true,has_cons,has_nil,Bool.or_false,decide_eq_true_eq]at h1;rw[has_append,Bool.or_eq_true,List.take_succ_eq_append_getElem hj,List.mem_append,← h1,has_cons,has_nil,Bool.or_false,List.mem_singleton,decide_eq_true_eq];dsimp only at h1 ⊢;constructor
  ·rintro (h | h)
   ·exact .inl (.inl h)
   ·rcases (by omega:n≤ys[j]∨n=ys[j+1])with h' | h'
    ·exact .inl (.inr ⟨h.1,h'⟩)
    ·exact .inr h'
  ·rintro ((h | h) | h)
   ·exact .inl h
   ·right;omega
   ·right;omega
 ·obtain rfl:i=j+1:=by omega
  exact⟨d,s,rfl⟩
def OfIs (ns:List Int) (w:World) (e:Ending) (w':World):Prop:=
 ((∀ x∈ns,1≤x∧x≤1099511627776)∧∃ l A c,e = .returned (.tuple #[.slice A l.length c,.int .i64 0])∧SetIs ns l∧l.length≤ns.length∧Own w' w.heap.size 184 2 A l.length c (runsC l)∧Below w.heap.size w w') ∨
 ((∃ x∈ns,x<1∨1099511627776<x)∧e = .returned (.tuple #[.slice none 0 0,.int .i64 1])∧Below w.heap.size w w')
set_option maxRecDepth 100000 in
set_option maxHeartbeats 4000000 in
theorem of_any (ns:List Int) (n:Nat) (A:Option Addr) (c:Nat) (w:World) (hl:ns.length=n) (hn:n≤100000) (hr:Rd w w.heap.size 1 A n c (intsC ns)) :
  Calls Tryz.prog 147 #[.slice A n c] w (OfIs ns w):=by
 have HC:=Lib.hid (clone_any ns n A c w hl (by omega) hr);have HL:=Lib.hid hl;clear hl hr;go_enter Tryz.func147,Tryz.ntmps147;go_wp2_with fail;refine HC.out.mono ?_;rintro e w1 ⟨A1,c1,rfl,ho1,hb1⟩;have HS:=Lib.hid (sort_own ns n A1 c1 w.heap.size w1 HL.out (by omega) ho1 hb1.size);have HB1:=Lib.hid hb1;clear ho1 hb1 HC;go_wp2_with fail;refine HS.out.mono ?_;rintro e w2 ⟨rfl,ho2,hb2⟩;have HB2:=Lib.hid (HB1.out.trans hb2);have HR:=Lib.hid ho2.rd;clear ho2 hb2 HS HB1;obtain⟨ys,hys⟩:∃ ys,ys=srt ns:=⟨_,rfl⟩
 have HLE:Hid (∀ (i j:Nat) (hi:i<j) (hj:j<ys.length),ys[i]≤ys[j]):=by
  subst hys;exact fun i j hi hj=>srt_le ns hi hj
 have HYL:Hid (ys.length=n):=by rw[hys];exact (srt_len ns).trans HL.out
 have HM:Hid (∀ x,x∈ys↔x∈ns):=by rw[hys];exact fun x=>srt_mem
 rw[← hys]at HR;clear hys;go_wp2
 go_loopw [5,14] (fun lv iv wr=>∃ (k q:Nat) (A':Option Addr) (c':Nat) (out:List (Int×Int)),k≤n∧lv = .slice A' q c'∧iv = .int .i64 k∧Hid (q=out.length)∧Hid (OfP ys k out)∧Hid (∀ x∈ys.take k,1≤x∧x≤1099511627776)∧Hid (Own wr w2.heap.size 184 2 A' q c' (runsC out))∧Hid (Below w2.heap.size w2 wr)) (fun _ iv _=>n-(intOf iv).toNat)
 case atStart=>exact⟨0,0,none,0,[],by omega,rfl,rfl,rfl,OfP.zero _,Lib.hid (by simp),⟨World.ownsRow_nil _ _ _ _,by simp[runsC]⟩,Below.refl _ _⟩
 case round=>
  obtain⟨k,q,A',c',out,hk,rfl,rfl,HQ,HI,HG,HO,HB⟩:=hrel
  by_cases hlt:k<n
  ·have hky:k<ys.length:=by rw[HYL.out];exact hlt
   obtain⟨b,o,rfl,hbl,hc⟩:=rd_int HR.out HYL.out hlt;have q0:=hc k hky;obtain⟨x,hx⟩:∃ x,x=ys[k]:=⟨_,rfl⟩;have HX:=Lib.hid hx;rw[← hx]at q0;have q0:=(HB.out.cell (p:=⟨b,o+k,none⟩) hbl).trans q0;have HBW:Hid (Below w.heap.size w wr):=HB2.out.trans (HB.out.mono HB2.out.size)
   by_cases h1:x<1
   ·have f1:decide (x<1)=true:=by simpa using h1
    have HE:Hid (∃ x∈ns,x<1∨1099511627776<x):=⟨x,(HM.out x).1 (by rw[hx];exact List.getElem_mem hky),.inl h1⟩;clear hc hx;go_wp2;go_ret2;exact .inr ⟨HE.out,rfl,HBW.out⟩
   ·have f1:decide (x<1)=false:=by simpa using h1
    by_cases h2:1099511627776<x
    ·have f2:decide (1099511627776<x)=true:=by simpa using h2
     have HE:Hid (∃ x∈ns,x<1∨1099511627776<x):=⟨x,(HM.out x).1 (by rw[hx];exact List.getElem_mem hky),.inr h2⟩;clear hc hx;go_wp2;go_ret2;exact .inr ⟨HE.out,rfl,HBW.out⟩
    ·have f2:decide (1099511627776<x)=false:=by simpa using h2
     have HG2:Hid (∀ x∈ys.take (k+1),1≤x∧x≤1099511627776):=fun y hy=>by
      rw[List.take_succ_eq_append_getElem hky]at hy
      rcases List.mem_append.1 hy with hy | hy
      ·exact HG.out y hy
      ·rw[List.mem_singleton.1 hy,← hx];omega
     have hlen:=HI.out.len
     rcases Nat.eq_zero_or_pos k with rfl | hk0
     ·have hout:out=[]:=List.eq_nil_of_length_eq_zero (by omega)
      subst hout;have hq:q=0:=HQ.out;subst hq
      have HY:Hid (OfP ys 1 ([]++[(x,x)])):=by
       unfold Hid;rw[HX.out];exact OfP.first hky (by rw[← hx];omega)
      simp only[Nat.add_zero]at q0;obtain⟨A2,c2,w3,hrun2,ho2',hb2'⟩:=push_run Tryz.underlying147 infoR wr w2.heap.size wr.heap.size rfl HB.out.size _ ([]:List (Int×Int)) HO.out.row x x (by omega);have Hrun2:=Lib.hid hrun2;have HO2:=Lib.hid ho2';have HB3:=Lib.hid (HB.out.trans hb2');obtain⟨q2,hq2⟩:∃ q2,q2=(([]:List (Int×Int))++[(x,x)]).length:=⟨_,rfl⟩;rw[← hq2]at Hrun2 HO2;have HQ2:=Lib.hid hq2;clear hrun2 ho2' hb2' hq2 hc hx hlen;go_wp2_with (at_builtin;refine Lib.wpList_append_run _ rfl _ _ _ _ rfl _ _ rfl rfl _ _ Hrun2.out ?_);go_roundw
      case rel=>exact⟨1,q2,A2,c2,([]:List (Int×Int))++[(x,x)],by omega,rfl,rfl,HQ2.out,HY.out,HG2.out,HO2.out,HB3.out⟩
      case measure=>simp[intOf];omega
     ·obtain⟨j,rfl⟩:∃ j,k=j+1:=⟨k-1,by omega⟩
      obtain⟨dd,s,hd⟩:=HI.out.last j (by omega) rfl;obtain⟨e0,he0⟩:∃ e,e=ys[j]:=⟨_,rfl⟩;have hord:=HLE.out j (j+1) (by omega) hky
      have hjy:j<ys.length:=by omega
      have he1:=HG.out e0 (by rw[he0,List.take_succ_eq_append_getElem hjy];exact List.mem_append_right _ List.mem_cons_self);rw[← he0]at hd hord;rw[← hx]at hord;subst hd;obtain⟨D,hD⟩:∃ D,D=dd.length:=⟨_,rfl⟩
      have hq:q=D+1:=by rw[hD];have:=HQ.out;simpa using this
      subst hq
      have hD2:D≤400000:=by rw[List.length_append,List.length_singleton]at hlen;omega
      obtain⟨g,rfl,hgb,hgl,hfz,hcell⟩:=Own.place HO.out (by omega);have hfz:=hfz (D*2+1)
      have hcl:wr.cell? ⟨g,D*2+1,none⟩=some (.int .i64 e0):=by
       have:=(runsC_at (dd++[(s,e0)]) D (by simp[hD])).2;rw[show (dd++[(s,e0)])[D]'(by simp[hD])=(s,e0) from by simp[hD]]at this;exact hcell _ _ this
      have eD:(dd++[(s,e0)]).length=D+1:=by simp[hD]
      by_cases he:e0+1<x
      ·have f5:decide (e0+1<x)=true:=by simpa using he
       have HY:Hid (OfP ys (j+1+1) ((dd++[(s,e0)])++[(x,x)])):=by
        unfold Hid;rw[HX.out];exact OfP.push (_d:=[]) HI.out hky (by rw[← hx,← he0];exact he) (by rw[← hx];omega)
       have hown:wr.ownsRow w2.heap.size 184 2 (.slice (some ⟨g,0,none⟩) (D+1) c') (dd++[(s,e0)]).length (runsC (dd++[(s,e0)])):=by rw[eD];exact HO.out.row
       obtain⟨A2,c2,w3,hrun2,ho2',hb2'⟩:=push_run Tryz.underlying147 infoR wr w2.heap.size wr.heap.size rfl HB.out.size _ (dd++[(s,e0)]) hown x x (by omega);have Hrun2:=Lib.hid hrun2;have HO2:=Lib.hid ho2';have HB3:=Lib.hid (HB.out.trans hb2');obtain⟨q2,hq2⟩:∃ q2,q2=((dd++[(s,e0)])++[(x,x)]).length:=⟨_,rfl⟩;rw[← hq2]at Hrun2 HO2;have HQ2:=Lib.hid hq2;clear hrun2 ho2' hb2' hq2 hcell hD eD hown hc hx he0 hlen he;go_wp2_with (at_builtin;refine Lib.wpList_append_run _ rfl _ _ _ _ rfl _ _ rfl rfl _ _ Hrun2.out ?_);go_roundw
       case rel=>exact⟨j+1+1,q2,A2,c2,(dd++[(s,e0)])++[(x,x)],by omega,rfl,by go_num,HQ2.out,HY.out,HG2.out,HO2.out,HB3.out⟩
       case measure=>simp[intOf];omega
      ·have f5:decide (e0+1<x)=false:=by simpa using he
       have HY:Hid (OfP ys (j+1+1) (dd++[(s,x)])):=by
        unfold Hid;rw[HX.out];refine OfP.grow hky (by rw[← he0];exact HI.out) (by rw[← hx,← he0];exact hord) (by rw[← hx,← he0];omega) (by rw[← hx];omega)
       have HO2:Hid (Own (wr.setCell ⟨g,D*2+1,none⟩ (.int .i64 x)) w2.heap.size 184 2 (some ⟨g,0,none⟩) (D+1) c' (runsC (dd++[(s,x)]))):=by
        rw[hD];exact own_close (by rw[← hD];exact HO.out)
       have HB3:Hid (Below w2.heap.size w2 (wr.setCell ⟨g,D*2+1,none⟩ (.int .i64 x))):=HB.out.setCell hgb _
       have HQ2:Hid (D+1=(dd++[(s,x)]).length):=by unfold Hid;rw[hD];simp
       clear hcell hD eD hc hx he0 hlen he;go_wp2;go_roundw
       case rel=>exact⟨j+1+1,D+1,_,c',dd++[(s,x)],by omega,rfl,by go_num,HQ2.out,HY.out,HG2.out,HO2.out,HB3.out⟩
       case measure=>simp[intOf];omega
  ·obtain rfl:k=n:=by omega
   have hI:=HI.out;have hG:=HG.out;have htk:ys.take k=ys:=List.take_of_length_le (by rw[HYL.out];omega);have HSET:Hid (SetIs ns out):=⟨hI.right,fun m=>by rw[hI.has m,htk];exact HM.out m⟩;have HGD:Hid (∀ x∈ns,1≤x∧x≤1099511627776):=fun x hx=>hG x (by rw[htk];exact (HM.out x).2 hx)
   have HLN:Hid (out.length≤ns.length):=by unfold Hid;rw[HL.out];exact hI.len
   have hq:=HQ.out;subst hq;clear hI hG htk;go_wp2;go_ret2;exact .inl ⟨HGD.out,out,_,_,rfl,HSET.out,HLN.out,HO.out.mono HB2.out.size,HB2.out.trans (HB.out.mono HB2.out.size)⟩
end Sp
end Go.Proofs.YtcbpgemiffmieaaGreat
namespace Go.Proofs.YtcbpgemiffmieaaGreat
namespace Cs
open Tr Cx Sp Classical
def oneT (e:E):T:=.mk [e] []
theorem entAt_one (e:E) (p:List ByteArray) (q:Int×Int):entAt (oneT e) p q=if p=[]∧keyE e=q then some e else none:=by
 cases p with
 | nil=>
  show look keyE [e] q=_
  by_cases h:keyE e=q
  ·rw[look_cons_eq h,if_pos ⟨rfl,h⟩]
  ·rw[look_cons_ne h,look_nil,if_neg fun h2=>h h2.2]
 | cons k p=>
  rw[if_neg fun h2=>by cases h2.1];exact entAt_none p q
theorem right_one {e:E} {c:List S3} (he:RightT 5 (oneT e)) (hc:RightC c) (hh:hasC c e.a e.n=true):RK (oneT e,c):=⟨he,hc,fun x hx=>by
 have h1:=(leaf_iff he x.1 x.2).1 hx;rw[entAt_one]at h1
 split at h1
 ·injection h1 with h1
  rw[← h1];exact hh
 ·cases h1⟩
end Cs
end Go.Proofs.YtcbpgemiffmieaaGreat
namespace Go.Proofs.YtcbpgemiffmieaaGreat
open Go.ChangeShapes Go.WideShapes Go.ChangeAt Go.RowKit
namespace Pk
open Tr Cx Sp Rw Codec
set_option maxRecDepth 100000 in
set_option maxHeartbeats 4000000 in
theorem plain_any:∀ (t:T) (d:Nat) (Ae Ak:Option Addr) (ne nk ce ck:Nat) (w:World),RightT d t→nodes t≤10000→RdT w w.heap.size t ⟨Ae,ne,ce⟩ ⟨Ak,nk,ck⟩ →
  Calls Tryz.prog 80 #[.agg #[.slice Ae ne ce,.slice Ak nk ck]] w (NewRow 5 1 (u8s (treeB t)) (treeB t).length w):=by
 intro t
 induction t using T.ind with
 | h es ks ih=>
 intro d Ae Ak ne nk ce ck w hd hn hr
 cases d with
 | zero=>exact hd.elim
 | succ d=>
 have hlen:=tree_le (.mk es ks) hd (by omega)
 have hbig:(treeB (.mk es ks)).length≤800000:=by omega
 have h0:=nodes_es es ks;obtain⟨hdE,_,_,hdK⟩:=hd;obtain⟨g,hg⟩:∃ g,g=w.heap.size:=⟨_,rfl⟩;have HK:=Lib.hid (tree_box w Ae Ak ne nk ce ck);rw[← hg]at HK;obtain⟨W0,hW0⟩:∃ W,W=w.alloc (.cells #[.slice Ae ne ce,.slice Ak nk ck] 35):=⟨_,rfl⟩;rw[← hW0]at HK;have k0:=HK.out.c0;have k1:=HK.out.c1;obtain⟨hle,hlk⟩:=rd_lens hr
 have hne:ne≤10000:=by omega
 have hnk:nk≤10000:=by omega
 have HR:=Lib.hid hr;have HLE:=Lib.hid hle;have HLK:=Lib.hid hlk
 have HTB:Hid (treeB (.mk es ks)=numB ne++es.flatMap entB++numB nk++ks.flatMap kidB):=by
  unfold Hid;rw[treeB_mk,← hle,← hlk];unfold listB;simp only[List.append_assoc]
 have HBIG:=Lib.hid hbig;have HDE:=Lib.hid hdE;have HDK:=Lib.hid hdK;have HN:=Lib.hid hn
 -- how many entries
 obtain⟨W1,hW1⟩:∃ W,W=W0.alloc (.cells #[.int .i64 ne] 2):=⟨_,rfl⟩
 have hsz:W0.heap.size=g+1:=by rw[hW0,hg];simp
 have HC1:=Lib.hid (nums_lit [(ne:Int)] 1 W0 W1 (g+1) #[.int .i64 ne] 2 hW1 hsz.symm rfl (by omega) (fun v hv=>by simp at hv;subst hv;exact⟨by omega,by omega⟩) rfl);have HG:=Lib.hid hg;have HW0:=Lib.hid hW0;have HW1:=Lib.hid hW1;have HSZ:=Lib.hid hsz;clear hlen hbig h0 hdE hdK hg hW0 hW1 hsz hle hlk hr hn;go_enter Tryz.func80,Tryz.ntmps80;go_wp2_with fail
 try rw[← HG.out,← HW0.out]
 rw[← HW1.out];refine HC1.out.mono ?_;rintro e w1 ⟨A1,m1,c1,rfl,hm1,ho1,hb1⟩;have HK1:=Lib.hid (HK.out.later hb1.out);have k0:=HK1.out.c0;have k1:=HK1.out.c1;have HM1:Hid (([(ne:Int)].flatMap numB).length=m1):=hm1
 have HO1:Hid (OutR w [(⟨g,0,none⟩,.slice Ae ne ce),(⟨g,1,none⟩,.slice Ak nk ck)] w1 (.slice A1 m1 c1) (numB ne)):=by
  refine⟨?_,HK1.out,fun x hx=>?_⟩
  ·have h1:=(ho1.out.mono HK.out.below.size).row
   rw[num_one_eq]at h1;have h2:=hm1.out;rw[num_one_eq]at h2;rw[h2];exact h1
  ·intro e
   have h1:=(ho1.out.row.lt _ e).1;have h2:=HSZ.out;simp only[List.mem_cons,List.not_mem_nil,or_false]at hx
   rcases hx with rfl | rfl <;> (dsimp only at h1;omega)
 clear hm1 ho1 hb1 HC1 HM1;go_wp2_with fail
 go_loopw [3,15] (fun v q wr=>∃ (k:Nat) (v1:Value),q = .int .i64 k∧v1=v∧k≤ne∧Hid (OutR w [(⟨g,0,none⟩,.slice Ae ne ce),(⟨g,1,none⟩,.slice Ak nk ck)] wr v1 (numB ne++(es.take k).flatMap entB))) (fun _ q _=>ne-(intOf q).toNat)
 case atStart=>
  refine⟨0,_,rfl,rfl,Nat.zero_le _,?_⟩;unfold Hid
  simpa using HO1.out
 case round=>
  obtain⟨k,v,rfl,rfl,hk,HO⟩:=hrel;have HKW:=Lib.hid HO.out.kept
  by_cases hlt:k<ne
  ·have hkl:k<es.length:=by rw[HLE.out];exact hlt
   obtain⟨b,o,rfl,hb,hc⟩:=rd_ent HR.out (by omega);obtain⟨c0,c1,c2,c3⟩:=hc k hkl;have c0:=(HKW.out.below.cell (p:=⟨b,o+k*4,none⟩) hb).trans c0;have c1:=(HKW.out.below.cell (p:=⟨b,o+k*4+1,none⟩) hb).trans c1;have c2:=(HKW.out.below.cell (p:=⟨b,o+k*4+2,none⟩) hb).trans c2;have c3:=(HKW.out.below.cell (p:=⟨b,o+k*4+3,none⟩) hb).trans c3;have hsuc:=flat_take entB hkl
   have hle2:(numB ne++(es.take (k+1)).flatMap entB).length≤800000:=by
    have h1:=flat_take_le entB es (k+1);have h2:=congrArg List.length HTB.out;have h3:=HBIG.out;simp only[List.length_append]at h2 ⊢;omega
   obtain⟨x,hx⟩:∃ x,x=es[k]:=⟨_,rfl⟩;have hE:=HDE.out x (hx▸List.getElem_mem hkl);rw[← hx]at c0 c1 c2 c3 hsuc;obtain⟨ea,en,s,ev⟩:=x;dsimp only at c0 c1 c2 c3;obtain⟨hd1,hd2,hd3,hd4⟩:=hE;unfold Dt.rightB at hd1;dsimp only at hd1 hd2 hd3 hd4;have hd1:=of_decide_eq_true hd1;obtain⟨p,hp⟩:∃ p,p=wr.heap.size:=⟨_,rfl⟩;obtain⟨W2,hW2⟩:∃ W,W=wr.alloc (.cells #[.int .i64 ea,.int .i64 en,.string s,.int .i64 ev] 116):=⟨_,rfl⟩
   have hs2:W2.heap.size=p+1:=by rw[hW2,hp];simp
   have hb2:Below wr.heap.size wr W2:=by rw[hW2];exact Dt.box_below _ _ _
   obtain⟨W3,hW3⟩:∃ W,W=W2.alloc (.cells #[.int .i64 ea,.int .i64 en] 2):=⟨_,rfl⟩
   have HC3:=Lib.hid (nums_lit [ea,en] 2 W2 W3 (p+1) #[.int .i64 ea,.int .i64 en] 2 hW3 hs2.symm rfl (by omega) (fun v hv=>by simp at hv;rcases hv with rfl | rfl <;> exact⟨by omega,by omega⟩) rfl)
   obtain⟨acc,hacc⟩:∃ acc,acc=numB ne++(es.take k).flatMap entB:=⟨_,rfl⟩;obtain⟨acc2,hacc2⟩:∃ acc2,acc2=numB ne++(es.take (k+1)).flatMap entB:=⟨_,rfl⟩;rw[← hacc]at HO
   have HO2:Hid (OutR w [(⟨p,0,none⟩,.int .i64 ea),(⟨p,1,none⟩,.int .i64 en),(⟨p,2,none⟩,.string s),(⟨p,3,none⟩,.int .i64 ev),(⟨g,0,none⟩,.slice (some ⟨b,o,none⟩) ne ce),(⟨g,1,none⟩,.slice Ak nk ck)] W2 v acc):=by
    have hpl:∀ z,v.ownBlock=some z→z<p:=fun z hz=>by rw[hp];exact HO.out.lt z hz
    refine ((((HO.out.later hb2).cell hpl ?_).cell hpl ?_).cell hpl ?_).cell hpl ?_ <;> (rw[hW2,hp];go_simp)
   rw[← hacc2]at hle2
   have HACC:Hid (acc2=acc++[ea,en].flatMap numB++txtB s++[ev].flatMap numB):=by
    unfold Hid;rw[hacc2,hacc,hsuc,num_two_eq,num_one_eq];unfold entB;simp only[List.append_assoc]
   have HACC2:=Lib.hid hacc2;have hlen:=congrArg List.length HACC.out;simp only[List.length_append]at hlen
   have hss:s.size≤900000:=by omega
   have hev:I64 ev:=⟨by omega,by omega⟩;have k0:=HKW.out.c0;have k1:=HKW.out.c1;have HP:=Lib.hid hp;have HW2:=Lib.hid hW2;have HW3:=Lib.hid hW3;have HS2:=Lib.hid hs2;have HLEN:=Lib.hid hlen;clear hc hsuc hx hd1 hd2 hd3 hd4 hp hW2 hs2 hb2 hW3 hacc hacc2 hlen HO hb;go_wp2_with fail
   try rw[← HP.out,← HW2.out]
   rw[← HW3.out];refine HC3.out.mono ?_;rintro e w4 ⟨A4,m4,c4,rfl,hm4,ho4,hb4⟩;obtain⟨v5,w5,Hrun,HO5⟩:=HO2.out.put (acc2:=acc++[ea,en].flatMap numB) hb4 hm4 ho4 (by have:=HLEN.out;rw[List.length_append];omega) rfl;clear hm4 ho4 hb4 HO2 HC3;have c2:=HO5.out.kept.c2;go_wp2_with (at_builtin;refine Lib.wpList_append_run _ rfl _ _ _ _ rfl _ _ rfl rfl _ _ Hrun.out ?_);refine (text_lit s w5 hss).mono ?_;rintro e w6 ⟨A6,m6,c6,rfl,hm6,ho6,hb6⟩;obtain⟨v7,w7,Hrun7,HO7⟩:=HO5.out.put (acc2:=acc++[ea,en].flatMap numB++txtB s) hb6 hm6 ho6 (by have:=HLEN.out;simp only[List.length_append];omega) rfl;clear hm6 ho6 hb6 HO5 Hrun;have c3:=HO7.out.kept.c3;obtain⟨p7,hp7⟩:∃ p,p=w7.heap.size:=⟨_,rfl⟩;obtain⟨W8,hW8⟩:∃ W,W=w7.alloc (.cells #[.int .i64 ev] 2):=⟨_,rfl⟩;have HC8:=Lib.hid (nums_lit [ev] 1 w7 W8 p7 #[.int .i64 ev] 2 hW8 hp7 rfl (by omega) (fun v hv=>by simp at hv;subst hv;exact hev) rfl)
   have HP7:=Lib.hid hp7;have HW8:=Lib.hid hW8;clear hp7 hW8;go_wp2_with (at_builtin;refine Lib.wpList_append_run _ rfl _ _ _ _ rfl _ _ rfl rfl _ _ Hrun7.out ?_);rw[← HW8.out]
   try rw[← HP7.out]
   refine HC8.out.mono ?_;rintro e w9 ⟨A9,m9,c9,rfl,hm9,ho9,hb9⟩;obtain⟨v10,w10,Hrun10,HO10⟩:=HO7.out.put (acc2:=acc2) hb9 hm9 ho9 hle2 HACC.out.symm;clear hm9 ho9 hb9 HO7 HC8 Hrun7;go_wp2_with (at_builtin;refine Lib.wpList_append_run _ rfl _ _ _ _ rfl _ _ rfl rfl _ _ Hrun10.out ?_);go_roundw
   case rel=>
    refine⟨k+1,v10,by go_num,rfl,by omega,?_⟩;have h1:=HO10.out.tail.tail.tail.tail;rw[HACC2.out]at h1;exact h1
   case measure=>simp[intOf];omega
  ·have hke:k=ne:=by omega
   have HO:Hid (OutR w [(⟨g,0,none⟩,.slice Ae ne ce),(⟨g,1,none⟩,.slice Ak nk ck)] wr v (numB ne++es.flatMap entB)):=by
    have h1:=HO.out;rw[hke,← HLE.out,List.take_length]at h1;rw[HLE.out]at h1;exact h1
   have k0:=HO.out.kept.c0;have k1:=HO.out.kept.c1;obtain⟨p,hp⟩:∃ p,p=wr.heap.size:=⟨_,rfl⟩;obtain⟨W2,hW2⟩:∃ W,W=wr.alloc (.cells #[.int .i64 nk] 2):=⟨_,rfl⟩;have HC2:=Lib.hid (nums_lit [(nk:Int)] 1 wr W2 p #[.int .i64 nk] 2 hW2 hp rfl (by omega) (fun v hv=>by simp at hv;subst hv;exact⟨by omega,by omega⟩) rfl);have HP:=Lib.hid hp;have HW2:=Lib.hid hW2;clear hp hW2 hke HKW;go_wp2_with fail;rw[← HW2.out]
   try rw[← HP.out]
   refine HC2.out.mono ?_;rintro e w3 ⟨A3,m3,c3,rfl,hm3,ho3,hb3⟩
   have hle3:(numB ne++es.flatMap entB++[(nk:Int)].flatMap numB).length≤800000:=by
    have h2:=congrArg List.length HTB.out;have h3:=HBIG.out;rw[num_one_eq];simp only[List.length_append]at h2 ⊢;omega
   obtain⟨v4,w4,Hrun4,HO4⟩:=HO.out.put (acc2:=numB ne++es.flatMap entB++[(nk:Int)].flatMap numB) hb3 hm3 ho3 hle3 rfl;have k0:=HO4.out.kept.c0;have k1:=HO4.out.kept.c1;clear hm3 ho3 hb3 HC2 HO hle3;go_wp2_with (at_builtin;refine Lib.wpList_append_run _ rfl _ _ _ _ rfl _ _ rfl rfl _ _ Hrun4.out ?_);obtain⟨wo,hwo⟩:∃ W,W=wr:=⟨_,rfl⟩;subst hwo
   go_loopw [3,55] (fun v q wr=>∃ (k:Nat) (v1:Value),q = .int .i64 k∧v1=v∧k≤nk∧Hid (OutR w [(⟨g,0,none⟩,.slice Ae ne ce),(⟨g,1,none⟩,.slice Ak nk ck)] wr v1 (numB ne++es.flatMap entB++numB nk++(ks.take k).flatMap kidB))) (fun _ q _=>nk-(intOf q).toNat)
   case atStart=>
    refine⟨0,_,rfl,rfl,Nat.zero_le _,?_⟩;unfold Hid;have h1:=HO4.out;rw[num_one_eq]at h1
    simpa using h1
   case round=>
    obtain⟨k,v,rfl,rfl,hk,HO⟩:=hrel;have HKW:=Lib.hid HO.out.kept;have k0:=HO.out.kept.c0;have k1:=HO.out.kept.c1
    by_cases hlt:k<nk
    ·have hkl:k<ks.length:=by rw[HLK.out];exact hlt
     obtain⟨b,o,rfl,hb,hc⟩:=rd_kid HR.out (by omega);obtain⟨⟨Ae',ne',ce'⟩,⟨Ak',nk',ck'⟩,c0,c1,c2,hkid⟩:=hc k hkl;dsimp only at c0 c1 c2;have hb1:=Nat.lt_of_lt_of_le hb HKW.out.below.size;have c0:=(HKW.out.below.cell (p:=⟨b,o+k*3,none⟩) hb).trans c0;have HC1:=Lib.hid c1;have HC2:=Lib.hid c2;have hsuc:=flat_take kidB hkl
     have hle2:(numB ne++es.flatMap entB++numB nk++(ks.take (k+1)).flatMap kidB).length≤800000:=by
      have h1:=flat_take_le kidB ks (k+1);have h2:=congrArg List.length HTB.out;have h3:=HBIG.out;simp only[List.length_append]at h2 ⊢;omega
     have hmem:ks[k]∈ks:=List.getElem_mem hkl;have hnk2:=Nat.le_trans (nodes_kid (es:=es) hmem) HN.out;obtain⟨hkey,_,hright⟩:=HDK.out _ hmem;have hih:=fun w hr=>ih _ hmem d Ae' Ak' ne' nk' ce' ck' w hright hnk2 hr;obtain⟨x,hx⟩:∃ x,x=ks[k]:=⟨_,rfl⟩;rw[← hx]at c0 hkid hsuc hih hkey;obtain⟨key,u⟩:=x;dsimp only at c0 hkid hih hkey;have HIH:=Lib.hid hih;have HKID:=Lib.hid hkid
     have hss:key.size≤900000:=by have:=hkey.2;omega
     obtain⟨acc,hacc⟩:∃ acc,acc=numB ne++es.flatMap entB++numB nk++(ks.take k).flatMap kidB:=⟨_,rfl⟩;obtain⟨acc2,hacc2⟩:∃ acc2,acc2=numB ne++es.flatMap entB++numB nk++(ks.take (k+1)).flatMap kidB:=⟨_,rfl⟩;rw[← hacc]at HO;rw[← hacc2]at hle2
     have HACC:Hid (acc2=acc++txtB key++treeB u):=by
      unfold Hid;rw[hacc2,hacc,hsuc];unfold kidB;simp only[List.append_assoc]
     have HACC2:=Lib.hid hacc2;have hlen:=congrArg List.length HACC.out;simp only[List.length_append]at hlen;have HLEN:=Lib.hid hlen;clear hc hsuc hx hmem hnk2 hright hih hkid hkey hacc hacc2 hlen c1 c2 HO4 Hrun4;go_wp2_with fail;refine (text_lit key wr hss).mono ?_;rintro e w6 ⟨A6,m6,c6,rfl,hm6,ho6,hb6⟩;obtain⟨v7,w7,Hrun7,HO7⟩:=HO.out.put (acc2:=acc++txtB key) hb6 hm6 ho6 (by have:=HLEN.out;simp only[List.length_append];omega) rfl;clear hm6 ho6 hb6 HO;have k0:=HO7.out.kept.c0;have k1:=HO7.out.kept.c1;have hbw:=HO7.out.kept.below;have c1:=(hbw.cell (p:=⟨b,o+k*3+1,none⟩) hb).trans HC1.out;have c2:=(hbw.cell (p:=⟨b,o+k*3+2,none⟩) hb).trans HC2.out;have HCALL:=Lib.hid (HIH.out w7 (RdT.more hbw.size _ (RdT.below HKID.out hbw)));clear hbw;go_wp2_with (at_builtin;refine Lib.wpList_append_run _ rfl _ _ _ _ rfl _ _ rfl rfl _ _ Hrun7.out ?_)
     refine HCALL.out.mono ?_;rintro e w9 ⟨A9,c9,rfl,ho9,hb9⟩;obtain⟨m9,hm9⟩:∃ m,(treeB u).length=m:=⟨_,rfl⟩;rw[hm9]at ho9 ⊢;obtain⟨v10,w10,Hrun10,HO10⟩:=HO7.out.put (acc2:=acc2) hb9 hm9 ho9 hle2 HACC.out.symm;clear hm9 ho9 hb9 HO7 HCALL Hrun7;go_wp2_with (at_builtin;refine Lib.wpList_append_run _ rfl _ _ _ _ rfl _ _ rfl rfl _ _ Hrun10.out ?_);go_roundw
     case rel=>
      refine⟨k+1,v10,by go_num,rfl,by omega,?_⟩;have h1:=HO10.out;rw[HACC2.out]at h1;exact h1
     case measure=>simp[intOf];omega
    ·have hke:k=nk:=by omega
     have h1:=HO.out.row;rw[hke,← HLK.out,List.take_length,HLK.out,← HTB.out]at h1;obtain⟨A5,c5,rfl,ho5⟩:=Own.of_row h1 (u8s_one _);have HO5:=Lib.hid ho5;have HB5:=Lib.hid HO.out.kept.below;clear h1 ho5 HO HKW;go_wp2;go_ret;exact⟨A5,c5,rfl,HO5.out,HB5.out⟩
end Pk
end Go.Proofs.YtcbpgemiffmieaaGreat
namespace Go.Proofs.YtcbpgemiffmieaaGreat
open Go.ChangeShapes Go.WideShapes Go.ChangeAt Go.RowKit
namespace Pk
open Tr Cx Sp Codec
structure OutC (w:World) (l:List (Addr×Value)) (B a:Nat) (g:Option Nat) (bs:List UInt8) (long:Bool):Prop where
 at_:OutAt w a g bs long
 ba:B≤a
 bg:∀ k,g=some k→B≤k
 cells:∀ x∈l,x.1.block<w.heap.size∧w.cell? x.1=some x.2∧x.1.block≠a∧g≠some x.1.block
def Pt (B a:Nat) (g:Option Nat) (bs:List UInt8) (long:Bool) (w:World) (l:List (Addr×Value)) (s:List UInt8) (wr:World):Prop:=
 ∃ g',OutC wr l B a g' (outB bs long s) (outL bs long s)∧Two a g w wr∧Fresh g g' w
section
variable {w wr w' W:World} {l l2:List (Addr×Value)} {B a:Nat} {g g':Option Nat} {bs s t:List UInt8} {long:Bool}
theorem OutC.later (h:OutC w l B a g bs long) (hb:Below w.heap.size w w'):OutC w' l B a g bs long:=
 ⟨h.at_.below hb,h.ba,h.bg,fun x hx=>by
  obtain⟨h1,h2,h3⟩:=h.cells x hx
  exact⟨Nat.lt_of_lt_of_le h1 hb.size,(hb.cell (p:=x.1) h1).trans h2,h3⟩⟩
theorem OutC.add (h:OutC w l B a g bs long) (hb:Below w.heap.size w w') (h2:∀ x∈l2,w.heap.size≤x.1.block∧x.1.block<w'.heap.size∧w'.cell? x.1=some x.2):OutC w' (l2++l) B a g bs long:=by
 have h':=h.later hb;refine⟨h'.at_,h.ba,h.bg,fun x hx=>?_⟩
 rcases List.mem_append.1 hx with hx | hx
 ·obtain⟨h3,h4,h5⟩:=h2 x hx
  have h6:=h.at_.lt;refine⟨h4,h5,by omega,fun e=>?_⟩;have:=h.at_.glt e;omega
 ·exact h'.cells x hx
theorem OutC.sub (h:OutC w l B a g bs long) (hs:∀ x∈l2,x∈l):OutC w l2 B a g bs long:=⟨h.at_,h.ba,h.bg,fun x hx=>h.cells x (hs x hx)⟩
theorem OutC.low (h:OutC w l B a g bs long) {B':Nat} (hB:B'≤B):OutC w l B' a g bs long:=⟨h.at_,Nat.le_trans hB h.ba,fun k hk=>Nat.le_trans hB (h.bg k hk),h.cells⟩
theorem OutC.bw (h:OutC w l B a g bs long):B≤w.heap.size:=by have h1:=h.at_.lt;have h2:=h.ba;omega
theorem out_none (h:OutAt w a g bs long):outB bs long []=bs∧outL bs long []=long:=by
 have hs:=h.small
 cases long with
 | true=>rw[h.none_ rfl];simp[outB,outL]
 | false=>
  constructor
  ·unfold outB;rw[if_neg (by simp;omega)];simp
  ·unfold outL;simp;omega
theorem Pt.refl (h:OutC w l B a g bs long):Pt B a g bs long w l [] w:=by
 obtain⟨e1,e2⟩:=out_none h.at_;exact⟨g,by rw[e1,e2];exact h,Two.refl _ _ _,Fresh.refl _ _⟩
theorem Pt.add (h:Pt B a g bs long w l s wr) (hb:Below wr.heap.size wr w') (h2:∀ x∈l2,wr.heap.size≤x.1.block∧x.1.block<w'.heap.size∧w'.cell? x.1=some x.2):Pt B a g bs long w (l2++l) s w':=by
 obtain⟨g',h1,h3,h4⟩:=h;exact⟨g',h1.add hb h2,h3.trans h4 (Two.of_below hb),h4⟩
theorem Pt.later (h:Pt B a g bs long w l s wr) (hb:Below wr.heap.size wr w'):Pt B a g bs long w l s w':=by
 obtain⟨g',h1,h3,h4⟩:=h;exact⟨g',h1.later hb,h3.trans h4 (Two.of_below hb),h4⟩
theorem Pt.sub (h:Pt B a g bs long w l s wr) (hs:∀ x∈l2,x∈l):Pt B a g bs long w l2 s wr:=by
 obtain⟨g',h1,h3,h4⟩:=h;exact⟨g',h1.sub hs,h3,h4⟩
theorem Pt.below (h:Pt B a g bs long w l s wr) (hw:OutC w l2 B a g bs long):Below B w wr:=by
 obtain⟨g',_,h3,_⟩:=h;exact h3.below hw.ba hw.bg hw.bw
theorem Pt.then (h:Pt B a g bs long w l s wr) {P:Program} {F:FuncId} {args:Array Value} (hc:∀ g' bs' long',OutC wr l B a g' bs' long'→Calls P F args wr fun e w'=>e = .returned (.tuple #[])∧Pt B a g' bs' long' wr l t w') :
  Calls P F args wr fun e w'=>e = .returned (.tuple #[])∧Hid (Pt B a g bs long w l (s++t) w'):=by
 have h0:=h;obtain⟨g',h1,h3,h4⟩:=h;refine (hc _ _ _ h1).mono fun e w' ⟨he,h5⟩=>⟨he,?_⟩;obtain⟨g2,k1,k3,k4⟩:=h5;obtain⟨e1,e2⟩:=outB_two bs long s t;rw[e1,e2]at k1;exact⟨g2,k1,h3.trans h4 k3,h4.trans h3.size k4⟩
theorem Pt.cell (h:Pt B a g bs long w l s wr) {p:Addr} {v:Value} (hx:(p,v)∈l):wr.cell? p=some v:=by
 obtain⟨g',h1,_⟩:=h;exact (h1.cells _ hx).2.1
theorem Pt.c0 {p:Addr} {v:Value} (h:Pt B a g bs long w ((p,v)::l) s wr):wr.cell? p=some v:=h.cell (by simp)
theorem Pt.c1 {x0:Addr×Value} {p:Addr} {v:Value} (h:Pt B a g bs long w (x0::(p,v)::l) s wr):wr.cell? p=some v:=h.cell (by simp)
theorem Pt.c2 {x0 x1:Addr×Value} {p:Addr} {v:Value} (h:Pt B a g bs long w (x0::x1::(p,v)::l) s wr):wr.cell? p=some v:=h.cell (by simp)
theorem Pt.c3 {x0 x1 x2:Addr×Value} {p:Addr} {v:Value} (h:Pt B a g bs long w (x0::x1::x2::(p,v)::l) s wr):wr.cell? p=some v:=h.cell (by simp)
theorem Pt.c4 {x0 x1 x2 x3:Addr×Value} {p:Addr} {v:Value} (h:Pt B a g bs long w (x0::x1::x2::x3::(p,v)::l) s wr):wr.cell? p=some v:=h.cell (by simp)
theorem took_pt (h:OutC w l B a g bs long) (ht:Took a g bs long s w w'):Pt B a g bs long w l s w':=by
 obtain⟨g',h1,h2,h3⟩:=ht;refine⟨g',⟨h1,h.ba,fun k hk=>?_,fun x hx=>?_⟩,h2,h3⟩
 ·rcases h3 with rfl | rfl | ⟨q,rfl,hq⟩
  ·cases hk
  ·exact h.bg k hk
  ·injection hk with hk
   have:=h.bw;omega
 ·obtain⟨k1,k2,k3,k4⟩:=h.cells x hx
  refine⟨Nat.lt_of_lt_of_le k1 h2.size,(h2.cell (p:=x.1) k1 k3 (fun e=>k4 e.symm)).trans k2,k3,?_⟩
  rcases h3 with rfl | rfl | ⟨q,rfl,hq⟩
  ·intro e;cases e
  ·exact k4
  ·intro e
   injection e with e;omega
theorem pnum_any (v:Int) (hv:I64 v) (h:OutC w l B a g bs long) :
  Calls Tryz.prog 83 #[.pointer (some ⟨a,0,none⟩),.int .i64 v] w fun e w'=>e = .returned (.tuple #[])∧Pt B a g bs long w l (numB v) w':=
 (num_any a g bs long v w h.at_ hv.1 hv.2).mono fun _ _ ⟨he,ht⟩=>⟨he,took_pt h ht⟩
theorem ptext_any (x:ByteArray) (hx:x.size≤maxLen) (h:OutC w l B a g bs long) :
  Calls Tryz.prog 82 #[.pointer (some ⟨a,0,none⟩),.string x] w fun e w'=>e = .returned (.tuple #[])∧Pt B a g bs long w l (txtB x) w':=
 (text_any a g bs long x w h.at_ hx).mono fun _ _ ⟨he,ht⟩=>⟨he,took_pt h (by
  have e:txtB x=textB x.data.toList:=by unfold txtB textB;rw[text_len]
  rw[e];exact ht)⟩
end
end Pk
end Go.Proofs.YtcbpgemiffmieaaGreat
namespace Go.Proofs.YtcbpgemiffmieaaGreat
open Go.ChangeShapes Go.WideShapes Go.ChangeAt Go.RowKit Go.Joins
namespace Dt
set_option maxRecDepth 100000
end Dt
end Go.Proofs.YtcbpgemiffmieaaGreat
namespace Go.Proofs.YtcbpgemiffmieaaGreat
open Go.RowKit
namespace Codec
end Codec
end Go.Proofs.YtcbpgemiffmieaaGreat
namespace Go.Proofs.YtcbpgemiffmieaaGreat
open Go.ChangeShapes Go.WideShapes Go.ChangeAt Go.RowKit Go.ChangeMaps
theorem wf_u8 {n:Int} (h:(Lit.int .u8 n).wf=true):0≤n∧n≤255:=by
 have e1:IntKind.u8.min=0:=by decide
 have e2:IntKind.u8.max=255:=by decide
 simp[Lit.wf,e1,e2]at h;exact h
theorem flat_one1 {α:Type} (f:α→Value):∀ l:List α,l.map f=l.flatMap fun b=>[f b]
 | []=>rfl
 | b::l=>by simp[flat_one1 f l]
theorem bytes_of_trod {H:Type} {enc:TypeId×Value→H} {W:World} {A:Option Addr} {len cap fuel:Nat} {x:DataW H×List MemPlace}
  (h:DataW.trod enc Tryz.prog W 0 (fun _=>true) true fuel 25 (Value.slice A len cap).cells.toList=some x) :
  ∃ bs:List UInt8,bs.length=len∧Rd W W.heap.size 1 A len cap (u8s bs)∧len≤maxLen:=by
 obtain⟨l,h1,h2,h3⟩:=rd_of_trod (fun b:UInt8=>[Value.int .u8 b.toNat]) (fun _=>rfl) (fun _ u hu=>by simp at hu;subst hu;rfl) (Nat.zero_lt_one) Tryz.underlying25 (by kernel_rfl)
  (fun n cs y hy=>by
   obtain⟨v,e,_,hw⟩:=DataW.trod_int Tryz.underlying5 hy;have:=wf_u8 hw;refine⟨UInt8.ofNat v.toNat,?_⟩;rw[e,UInt8.toNat_ofNat']
   congr 2
   omega) h
 refine⟨l,h1,?_,h3⟩;have e:u8s l=l.flatMap fun b:UInt8=>[Value.int .u8 b.toNat]:=flat_one1 _ l;rw[e];exact h2
namespace Codec
structure Asked where
 text:Bool
 most:Int
 lo : -9223372036854775808≤most
 hi:most≤9223372036854775807
def Asked.cells (a:Asked):List Value:=[.bool a.text,.int .i64 a.most]
structure Itm where
 text:Bool
 n:Int
 s:ByteArray
 lo : -9223372036854775808≤n
 hi:n≤9223372036854775807
 small:s.size≤maxLen
def Itm.cells (a:Itm):List Value:=[.bool a.text,.int .i64 a.n,.string a.s]
end Codec
end Go.Proofs.YtcbpgemiffmieaaGreat
