/- Texts of the lower layers, and of layer 9, put together. -/
import Derived.Test.YtgeafpaognhokaaGreatG60
import Derived.Test.YtgeafpaognhokaaGreatOpFull
import Derived.Test.YtgeafpaognhokaaGreatG00
set_option maxRecDepth 100000
set_option maxHeartbeats 4000000
namespace Go.Proofs.YtgeafpaognhokaaGreat
open Go.ChangeShapes Go.WideShapes Go.ChangeAt Go.RowKit
namespace Cs
open Tr Cx Sp Rw Classical
def badK (k:ByteArray):Bool:=decide (30<k.size)||decide (kindK k=0)
def noMap (k:ByteArray):Bool:=!decide (kindK k=5)
theorem bad_any {l:List ByteArray} : l.any badK=true↔∃ k∈l,30<k.size∨kindK k=0:=by
 rw[List.any_eq_true];unfold badK;exact exists_congr fun k=>and_congr Iff.rfl (by rw[Bool.or_eq_true,decide_eq_true_iff,decide_eq_true_iff])
theorem nomap_any {l:List ByteArray} {m:Nat} (hl:l.length=m+1):(l.take m).any noMap=true↔∃ (i:Nat) (h:i<l.length),i+1<l.length∧kindK l[i]≠5:=by
 rw[List.any_eq_true];unfold noMap;constructor
 ·rintro⟨k,hk,h2⟩
  obtain⟨i,hi,rfl⟩:=List.getElem_of_mem hk;rw[List.length_take]at hi;refine⟨i,by omega,by omega,?_⟩;rw[List.getElem_take]at h2
  simpa using h2
 ·rintro⟨i,hi,h1,h2⟩
  have h3:i<(l.take m).length:=by rw[List.length_take];omega
  refine⟨(l.take m)[i],List.getElem_mem h3,?_⟩;rw[List.getElem_take]
  simpa using h2
theorem badkey_any (key:ByteArray) (w:World):Calls Tryz.prog 85 #[.string key] w fun e w'=>e = .returned (.bool (badK key))∧w'=w:=by
 obtain⟨kd,hkd⟩:∃ k,kindK key=k:=⟨_,rfl⟩;have H:=fun W=>Lib.hid (okind_any key W);rw[hkd]at H
 by_cases h30:30<key.size
 ·have f0:decide ((30:Int)<(key.size:Int))=true:=decide_eq_true (by omega)
  have e1:badK key=true:=by unfold badK;rw[decide_eq_true h30];rfl
  rw[e1];clear h30 e1 hkd;go_enter Tryz.func85,Tryz.ntmps85;go_wp2_with fail;go_ret;exact⟨rfl,rfl⟩
 ·have f0:decide ((30:Int)<(key.size:Int))=false:=decide_eq_false (by omega)
  have e1:badK key=decide (kd=0):=by unfold badK;rw[decide_eq_false h30,hkd];rfl
  rw[e1]
  have f1:((kd:Int)==0)=decide (kd=0):=by rw[Bool.eq_iff_iff,beq_iff_eq,decide_eq_true_iff];omega
  clear h30 e1 hkd;go_enter Tryz.func85,Tryz.ntmps85;go_wp2_with fail;refine (H _).out.mono ?_;rintro e w' ⟨rfl,rfl⟩;go_wp2_with fail;go_ret;exact⟨Dt.ret_bool (by first | exact f1 | rfl),rfl⟩
theorem nomapkey_any (key:ByteArray) (w:World):Calls Tryz.prog 86 #[.string key] w fun e w'=>e = .returned (.bool (noMap key))∧w'=w:=by
 obtain⟨kd,hkd⟩:∃ k,kindK key=k:=⟨_,rfl⟩;have H:=fun W=>Lib.hid (okind_any key W);rw[hkd]at H
 have e1:noMap key=((kd:Int) != 5):=by unfold noMap;rw[hkd,Bool.eq_iff_iff,bne_iff_ne,Bool.not_eq_true',decide_eq_false_iff_not];omega
 rw[e1];clear hkd e1;go_enter Tryz.func86,Tryz.ntmps86;go_wp2_with fail;refine (H _).out.mono ?_;rintro e w' ⟨rfl,rfl⟩;go_wp2_with fail;go_ret;exact⟨rfl,rfl⟩
set_option maxHeartbeats 1000000 in
theorem badindex_any (l:List ByteArray) (n:Nat) (A:Option Addr) (c:Nat) (w:World) (z:Bool) (hz:l.any badK=z) (hn:n≤1000000) (hr:Rd w w.heap.size 1 A n c (strs l)) :
  Calls Tryz.prog 132 #[.slice A n c,.func (.func 85) #[] #[]] w fun e w'=>∃ r:Int,e = .returned (.int .i64 r)∧(decide (0≤r)=z)∧w'=w:=by
 have HL:=Lib.hid (rd_len1 hr);have HR:=Lib.hid hr;have HBZ:=Lib.hid hz;clear hr hz;go_enter Tryz.func132,Tryz.ntmps132;go_wp2_with fail
 go_loopw [8] (fun i wr=>∃ k:Nat,k≤n∧i = .int .i64 k∧Hid (∀ x∈l.take k,badK x=false)∧wr=w) (fun i _=>n-(intOf i).toNat)
 case atStart=>exact⟨0,by omega,rfl,fun x hx=>by simp at hx,rfl⟩
 case round=>
  obtain⟨k,hk,rfl,HA,rfl⟩:=hrel
  by_cases hlt:k<n
  ·have hkl:k<l.length:=by rw[HL.out];exact hlt
   obtain⟨b,o,rfl,hb,hc⟩:=HR.out.at_ (by omega);obtain⟨x,hx⟩:∃ x,x=l[k]:=⟨_,rfl⟩;have cx:=hc k (.string x) (by rw[hx];simp[Tr.strs,hkl])
   have htk:l.take (k+1)=l.take k++[x]:=by rw[hx];exact List.take_succ_eq_append_getElem hkl
   have hmem:x∈l:=by rw[hx];exact List.getElem_mem hkl
   have HW:=fun W=>Lib.hid (badkey_any x W)
   cases hz:badK x with
   | false=>
    rw[hz]at HW
    have HA2:Hid (∀ x∈l.take (k+1),badK x=false):=fun y hy=>by
     rw[htk]at hy
     rcases List.mem_append.1 hy with hy | hy
     ·exact HA.out y hy
     ·rw[List.mem_singleton.1 hy];exact hz
    clear hc hx htk hmem hz;go_wp2_with (go_at_call 85;refine (HW _).out.mono ?_;rintro e w' ⟨rfl,rfl⟩);go_roundw
    case rel=>exact⟨k+1,by omega,by go_num,HA2.out,by first | rfl | trivial⟩
    case measure=>simp[intOf];omega
   | true=>
    rw[hz]at HW
    have hbad:z=true:=by
     rw[← HBZ.out];exact List.any_eq_true.2 ⟨x,hmem,hz⟩
    have HBAD:=Lib.hid hbad;clear hc hx htk hmem hz hbad;go_wp2_with (go_at_call 85;refine (HW _).out.mono ?_;rintro e w' ⟨rfl,rfl⟩);go_ret;exact⟨k,rfl,by rw[HBAD.out];exact decide_eq_true (by omega),rfl⟩
  ·obtain rfl:k=n:=by omega
   have hbad:z=false:=by
    rw[← HBZ.out,List.any_eq_false];intro x hx h2;have h3:=HA.out x (by rw[List.take_of_length_le (by rw[HL.out];omega)];exact hx);rw[h3]at h2
    cases h2
   have HBAD:=Lib.hid hbad;clear hbad;go_wp2_with fail;go_ret;exact⟨-1,rfl,by rw[HBAD.out];rfl,rfl⟩
theorem badsome_any (l:List ByteArray) (n:Nat) (A:Option Addr) (c:Nat) (w:World) (z:Bool) (hz:l.any badK=z) (hn:n≤1000000) (hr:Rd w w.heap.size 1 A n c (strs l)) :
  Calls Tryz.prog 84 #[.slice A n c,.func (.func 85) #[] #[]] w fun e w'=>e = .returned (.bool z)∧w'=w:=by
 have H:=Lib.hid (badindex_any l n A c w z hz hn hr);clear hr hz;go_enter Tryz.func84,Tryz.ntmps84;go_wp2_with fail;refine H.out.mono ?_;rintro e w' ⟨r,rfl,hr,rfl⟩;go_wp2_with fail;go_ret;exact⟨Dt.ret_bool (by first | exact hr | rfl),rfl⟩
set_option maxHeartbeats 1000000 in
theorem nomapindex_any (l:List ByteArray) (n:Nat) (A:Option Addr) (c:Nat) (w:World) (z:Bool) (hz:l.any noMap=z) (hn:n≤1000000) (hr:Rd w w.heap.size 1 A n c (strs l)) :
  Calls Tryz.prog 132 #[.slice A n c,.func (.func 86) #[] #[]] w fun e w'=>∃ r:Int,e = .returned (.int .i64 r)∧(decide (0≤r)=z)∧w'=w:=by
 have HL:=Lib.hid (rd_len1 hr);have HR:=Lib.hid hr;have HBZ:=Lib.hid hz;clear hr hz;go_enter Tryz.func132,Tryz.ntmps132;go_wp2_with fail
 go_loopw [8] (fun i wr=>∃ k:Nat,k≤n∧i = .int .i64 k∧Hid (∀ x∈l.take k,noMap x=false)∧wr=w) (fun i _=>n-(intOf i).toNat)
 case atStart=>exact⟨0,by omega,rfl,fun x hx=>by simp at hx,rfl⟩
 case round=>
  obtain⟨k,hk,rfl,HA,rfl⟩:=hrel
  by_cases hlt:k<n
  ·have hkl:k<l.length:=by rw[HL.out];exact hlt
   obtain⟨b,o,rfl,hb,hc⟩:=HR.out.at_ (by omega);obtain⟨x,hx⟩:∃ x,x=l[k]:=⟨_,rfl⟩;have cx:=hc k (.string x) (by rw[hx];simp[Tr.strs,hkl])
   have htk:l.take (k+1)=l.take k++[x]:=by rw[hx];exact List.take_succ_eq_append_getElem hkl
   have hmem:x∈l:=by rw[hx];exact List.getElem_mem hkl
   have HW:=fun W=>Lib.hid (nomapkey_any x W)
   cases hz:noMap x with
   | false=>
    rw[hz]at HW
    have HA2:Hid (∀ x∈l.take (k+1),noMap x=false):=fun y hy=>by
     rw[htk]at hy
     rcases List.mem_append.1 hy with hy | hy
     ·exact HA.out y hy
     ·rw[List.mem_singleton.1 hy];exact hz
    clear hc hx htk hmem hz;go_wp2_with (go_at_call 86;refine (HW _).out.mono ?_;rintro e w' ⟨rfl,rfl⟩);go_roundw
    case rel=>exact⟨k+1,by omega,by go_num,HA2.out,by first | rfl | trivial⟩
    case measure=>simp[intOf];omega
   | true=>
    rw[hz]at HW
    have hbad:z=true:=by
     rw[← HBZ.out];exact List.any_eq_true.2 ⟨x,hmem,hz⟩
    have HBAD:=Lib.hid hbad;clear hc hx htk hmem hz hbad;go_wp2_with (go_at_call 86;refine (HW _).out.mono ?_;rintro e w' ⟨rfl,rfl⟩);go_ret;exact⟨k,rfl,by rw[HBAD.out];exact decide_eq_true (by omega),rfl⟩
  ·obtain rfl:k=n:=by omega
   have hbad:z=false:=by
    rw[← HBZ.out,List.any_eq_false];intro x hx h2;have h3:=HA.out x (by rw[List.take_of_length_le (by rw[HL.out];omega)];exact hx);rw[h3]at h2
    cases h2
   have HBAD:=Lib.hid hbad;clear hbad;go_wp2_with fail;go_ret;exact⟨-1,rfl,by rw[HBAD.out];rfl,rfl⟩
theorem nomapsome_any (l:List ByteArray) (n:Nat) (A:Option Addr) (c:Nat) (w:World) (z:Bool) (hz:l.any noMap=z) (hn:n≤1000000) (hr:Rd w w.heap.size 1 A n c (strs l)) :
  Calls Tryz.prog 84 #[.slice A n c,.func (.func 86) #[] #[]] w fun e w'=>e = .returned (.bool z)∧w'=w:=by
 have H:=Lib.hid (nomapindex_any l n A c w z hz hn hr);clear hr hz;go_enter Tryz.func84,Tryz.ntmps84;go_wp2_with fail;refine H.out.mono ?_;rintro e w' ⟨r,rfl,hr,rfl⟩;go_wp2_with fail;go_ret;exact⟨Dt.ret_bool (by first | exact hr | rfl),rfl⟩
theorem ocheckpath_any (l:List ByteArray) (n:Nat) (A:Option Addr) (c:Nat) (w:World) (z:Int) (hz:pathE l=z) (hn:n≤1000000) (hr:Rd w w.heap.size 1 A n c (strs l)) :
  Calls Tryz.prog 41 #[.slice A n c] w fun e w'=>e = .returned (.int .i64 z)∧w'=w:=by
 have HL:=Lib.hid (rd_len1 hr);have HR:=Lib.hid hr;have HZ:=Lib.hid hz;clear hr hz
 by_cases h1:n<1
 ·have f1:decide ((n:Int)<1)=true:=decide_eq_true (by omega)
  obtain rfl:z=1:=by
   rw[← HZ.out];exact pathE_one (.inl (List.length_eq_zero_iff.1 (by rw[HL.out];omega)))
  clear h1;go_enter Tryz.func41,Tryz.ntmps41;go_wp2_with fail;go_ret;exact⟨rfl,rfl⟩
 have f1:decide ((n:Int)<1)=false:=decide_eq_false (by omega)
 by_cases h3:3<n
 ·have f3:decide ((3:Int)<(n:Int))=true:=decide_eq_true (by omega)
  obtain rfl:z=1:=by
   rw[← HZ.out];exact pathE_one (.inr (.inl (by rw[HL.out];omega)))
  clear h1 h3;go_enter Tryz.func41,Tryz.ntmps41;go_wp2_with fail;go_ret;exact⟨rfl,rfl⟩
 have f3:decide ((3:Int)<(n:Int))=false:=decide_eq_false (by omega);obtain⟨m,rfl⟩:∃ m,n=m+1:=⟨n-1,by omega⟩
 have HM:Hid (m≤2):=by unfold Hid;omega
 have f1m:decide ((m:Int)+1<1)=false:=decide_eq_false (by omega);have f3m:decide (3<(m:Int)+1)=false:=decide_eq_false (by have:=HM.out;omega);obtain⟨z1,hz1⟩:∃ z,l.any badK=z:=⟨_,rfl⟩;have HB:=Lib.hid (badsome_any l (m+1) A c w z1 hz1 (by omega) HR.out)
 cases z1 with
 | true=>
  obtain rfl:z=1:=by
   rw[← HZ.out];exact pathE_one (.inr (.inr (bad_any.1 hz1)))
  clear h1 h3 hz1;go_enter Tryz.func41,Tryz.ntmps41;go_wp2_with fail;refine HB.out.mono ?_;rintro e w' ⟨rfl,rfl⟩;go_wp2_with fail;go_ret;exact⟨rfl,rfl⟩
 | false=>
  obtain⟨z2,hz2⟩:∃ z,(l.take m).any noMap=z:=⟨_,rfl⟩
  have hcap:m≤c:=by have:=HR.out.cap;omega
  have HC:=fun W=>cut_strs A (m+1) c m hcap W;have hcw:=HC w;have HN:=Lib.hid (nomapsome_any (l.take m) m A c w z2 hz2 (by omega) (rd_cut HR.out (by omega)))
  have fw:IntKind.i64.wrap ((m:Int)+1-1)=(m:Int):=by have:=HM.out;rw[IntKind.wrap_i64];omega
  have fx:((m:Int)+1-1)=(m:Int):=by omega
  have hnot:¬(l=[]∨3<l.length∨(∃ k∈l,30<k.size∨kindK k=0)):=by
   rintro (h | h | h)
   ·have h2:=HL.out;rw[h]at h2;cases h2
   ·have h2:=HL.out;omega
   ·rw[← bad_any,hz1]at h;cases h
  obtain⟨ez,hez⟩:∃ x:Int,x=if z2=true then 6 else 0:=⟨_,rfl⟩
  have hzz:z=ez:=by
   rw[← HZ.out,hez]
   cases z2 with
   | true=>rw[if_pos rfl];exact pathE_six hnot ((nomap_any HL.out).1 hz2)
   | false=>rw[if_neg (by decide)];exact pathE_ok hnot (fun h=>by rw[← nomap_any HL.out,hz2]at h;cases h)
  subst hzz;have HEZ:=Lib.hid hez;clear h1 h3 hz1 hz2 hnot HC hcap hez;go_enter Tryz.func41,Tryz.ntmps41;go_wp2_with fail;refine HB.out.mono ?_;rintro e w' ⟨rfl,rfl⟩;go_wp2_with fail;refine HN.out.mono ?_;rintro e w' ⟨rfl,rfl⟩
  cases z2 with
  | true=>
   obtain rfl:z=6:=HEZ.out;go_wp2_with fail;go_ret;exact⟨rfl,rfl⟩
  | false=>
   obtain rfl:z=0:=HEZ.out;go_wp2_with fail;go_ret;exact⟨rfl,rfl⟩
end Cs
end Go.Proofs.YtgeafpaognhokaaGreat
set_option maxRecDepth 100000
set_option maxHeartbeats 4000000
namespace Go.Proofs.YtgeafpaognhokaaGreat
open Go.ChangeShapes Go.WideShapes Go.ChangeAt Go.RowKit
namespace Cs
open Tr Cx Sp Rw Classical
theorem oact_any (a:Int) (k:Nat) (w:World) (z:Bool) (hz:decide (actOk a k)=z) :
  Calls Tryz.prog 87 #[.int .i64 a,.int .i64 k] w fun e w'=>e = .returned (.bool z)∧Below w.heap.size w w':=by
 by_cases h1:a=1
 ·subst h1
  have fk:((k:Int)==1)=z:=by
   rw[← hz,Bool.eq_iff_iff,beq_iff_eq,decide_eq_true_iff];unfold actOk;omega
  clear hz;go_enter Tryz.func87,Tryz.ntmps87;go_wp2_with fail;go_ret;exact⟨rfl,Below.refl _ _⟩
 have f1:(a==1)=false:=by simpa using h1
 by_cases h2:a=2
 ·subst h2
  have fk:((k:Int)==1)=z:=by
   rw[← hz,Bool.eq_iff_iff,beq_iff_eq,decide_eq_true_iff];unfold actOk;omega
  clear hz;go_enter Tryz.func87,Tryz.ntmps87;go_wp2_with fail;go_ret;exact⟨rfl,Below.refl _ _⟩
 have f2:(a==2)=false:=by simpa using h2
 by_cases h3:a=3
 ·subst h3
  have fk:((k:Int)==2)=z:=by
   rw[← hz,Bool.eq_iff_iff,beq_iff_eq,decide_eq_true_iff];unfold actOk;omega
  clear hz;go_enter Tryz.func87,Tryz.ntmps87;go_wp2_with fail;go_ret;exact⟨rfl,Below.refl _ _⟩
 have f3:(a==3)=false:=by simpa using h3
 by_cases h4:a=4
 ·subst h4
  have fk:((k:Int)==2)=z:=by
   rw[← hz,Bool.eq_iff_iff,beq_iff_eq,decide_eq_true_iff];unfold actOk;omega
  clear hz;go_enter Tryz.func87,Tryz.ntmps87;go_wp2_with fail;go_ret;exact⟨rfl,Below.refl _ _⟩
 have f4:(a==4)=false:=by simpa using h4
 by_cases h5:a=5
 ·subst h5
  have fk:((k:Int)==3)=z:=by
   rw[← hz,Bool.eq_iff_iff,beq_iff_eq,decide_eq_true_iff];unfold actOk;omega
  clear hz;go_enter Tryz.func87,Tryz.ntmps87;go_wp2_with fail;go_ret;exact⟨rfl,Below.refl _ _⟩
 have f5:(a==5)=false:=by simpa using h5
 by_cases h6:a=6
 ·subst h6
  have fk:((k:Int)==4)=z:=by
   rw[← hz,Bool.eq_iff_iff,beq_iff_eq,decide_eq_true_iff];unfold actOk;omega
  clear hz;go_enter Tryz.func87,Tryz.ntmps87;go_wp2_with fail;go_ret;exact⟨rfl,Below.refl _ _⟩
 have f6:(a==6)=false:=by simpa using h6
 have f7:(a==7)=z:=by
  rw[← hz,Bool.eq_iff_iff,beq_iff_eq,decide_eq_true_iff];unfold actOk;omega
 clear hz h1 h2 h3 h4 h5 h6;go_enter Tryz.func87,Tryz.ntmps87;go_wp2_with fail;go_ret;exact⟨rfl,Below.refl _ _⟩
def textP (a:Int) (s:ByteArray):Prop:=((a=3∨a=4)→KeyOk s)∧(a=6→s.size≤30)∧(¬(a=3∨a=4∨a=6)→s=⟨#[]⟩)
def numP (a v:Int):Prop:=(a=5 → -1099511627776≤v∧v≤1099511627776)∧(a≠5→v=0)
theorem otext_any (xA:Option Addr) (xn xc:Nat) (xa:Int) (xs:ByteArray) (xv:Int) (w:World) (z:Bool) (hz:decide (textP xa xs)=z) :
  Calls Tryz.prog 88 #[.agg #[.slice xA xn xc,.int .i64 xa,.string xs,.int .i64 xv]] w fun e w'=>e = .returned (.bool z)∧Below w.heap.size w w':=by
 obtain⟨g,hg⟩:∃ g,g=w.heap.size:=⟨_,rfl⟩;obtain⟨W,hW⟩:∃ W,W=w.alloc (.cells #[.slice xA xn xc,.int .i64 xa,.string xs,.int .i64 xv] 27):=⟨_,rfl⟩
 have hb0:Below w.heap.size w W:=by rw[hW];exact Dt.box_below _ _ _
 have HKc:Hid (Kept [(⟨g,0,none⟩,.slice xA xn xc),(⟨g,1,none⟩,.int .i64 xa),(⟨g,2,none⟩,.string xs),(⟨g,3,none⟩,.int .i64 xv)] w W):=by
  have h0:=Kept.nil_of hb0
  refine (((h0.cons_of ?_).cons_of ?_).cons_of ?_).cons_of ?_ <;> (rw[hW,hg];go_simp)
 have HG:=Lib.hid hg;have HW:=Lib.hid hW;clear hg hW;clear hb0
 by_cases h3:xa=3
 ·subst h3
  by_cases h1:1≤xs.size
  ·have g1:decide ((1:Int)≤(xs.size:Int))=true:=decide_eq_true (by omega)
   have g2:decide ((xs.size:Int)≤30)=z:=by
    rw[← hz,Bool.eq_iff_iff,decide_eq_true_iff,decide_eq_true_iff];exact⟨fun h=>⟨fun _=>⟨by omega,by omega⟩,fun h=>absurd h (by decide),fun h=>absurd (by decide) h⟩,fun h=>by have h3:=(h.1 (by decide)).2;omega⟩
   clear hz h1;obtain⟨c0,c1,c2,c3,-⟩:=HKc.out.cj;rw[HW.out,HG.out]at c0 c1 c2 c3;go_enter Tryz.func88,Tryz.ntmps88;go_wp2_with fail;go_ret;exact⟨Dt.ret_bool (by first | rfl | assumption),by have h:=HKc.out.below;rw[HW.out]at h;exact h⟩
  ·have g1:decide ((1:Int)≤(xs.size:Int))=false:=decide_eq_false (by omega)
   have g2:false=z:=by
    rw[← hz];exact (decide_eq_false fun h=>by have h3:=(h.1 (by decide)).1;omega).symm
   subst g2;clear hz h1;obtain⟨c0,c1,c2,c3,-⟩:=HKc.out.cj;rw[HW.out,HG.out]at c0 c1 c2 c3;go_enter Tryz.func88,Tryz.ntmps88;go_wp2_with fail;go_ret;exact⟨Dt.ret_bool (by first | rfl | assumption),by have h:=HKc.out.below;rw[HW.out]at h;exact h⟩
 by_cases h4:xa=4
 ·subst h4
  by_cases h1:1≤xs.size
  ·have g1:decide ((1:Int)≤(xs.size:Int))=true:=decide_eq_true (by omega)
   have g2:decide ((xs.size:Int)≤30)=z:=by
    rw[← hz,Bool.eq_iff_iff,decide_eq_true_iff,decide_eq_true_iff];exact⟨fun h=>⟨fun _=>⟨by omega,by omega⟩,fun h=>absurd h (by decide),fun h=>absurd (by decide) h⟩,fun h=>by have h3:=(h.1 (by decide)).2;omega⟩
   clear hz h1;obtain⟨c0,c1,c2,c3,-⟩:=HKc.out.cj;rw[HW.out,HG.out]at c0 c1 c2 c3;go_enter Tryz.func88,Tryz.ntmps88;go_wp2_with fail;go_ret;exact⟨Dt.ret_bool (by first | rfl | assumption),by have h:=HKc.out.below;rw[HW.out]at h;exact h⟩
  ·have g1:decide ((1:Int)≤(xs.size:Int))=false:=decide_eq_false (by omega)
   have g2:false=z:=by
    rw[← hz];exact (decide_eq_false fun h=>by have h3:=(h.1 (by decide)).1;omega).symm
   subst g2;clear hz h1;obtain⟨c0,c1,c2,c3,-⟩:=HKc.out.cj;rw[HW.out,HG.out]at c0 c1 c2 c3;go_enter Tryz.func88,Tryz.ntmps88;go_wp2_with fail;go_ret;exact⟨Dt.ret_bool (by first | rfl | assumption),by have h:=HKc.out.below;rw[HW.out]at h;exact h⟩
 by_cases h6:xa=6
 ·subst h6
  have g2:decide ((xs.size:Int)≤30)=z:=by
   rw[← hz,Bool.eq_iff_iff,decide_eq_true_iff,decide_eq_true_iff];exact⟨fun h=>⟨fun h=>absurd h (by decide),fun _=>by omega,fun h=>absurd (by decide) h⟩,fun h=>by have h3:=h.2.1 rfl;omega⟩
  clear hz h3 h4;obtain⟨c0,c1,c2,c3,-⟩:=HKc.out.cj;rw[HW.out,HG.out]at c0 c1 c2 c3;go_enter Tryz.func88,Tryz.ntmps88;go_wp2_with fail;go_ret;exact⟨Dt.ret_bool (by first | rfl | assumption),by have h:=HKc.out.below;rw[HW.out]at h;exact h⟩
 have f3:(xa==3)=false:=by simpa using h3
 have f4:(xa==4)=false:=by simpa using h4
 have f6:(xa==6)=false:=by simpa using h6
 have hzz:decide (xs=⟨#[]⟩)=z:=by
  rw[← hz];exact decide_eq_decide.2 ⟨fun h=>⟨fun h2=>absurd h2 (by omega),fun h2=>absurd h2 h6,fun _=>h⟩,fun h=>h.2.2 (by omega)⟩
 clear hz h3 h4 h6
 by_cases hs:xs=⟨#[]⟩
 ·obtain rfl:z=true:=by rw[← hzz];exact decide_eq_true hs
  subst hs;clear hzz;obtain⟨c0,c1,c2,c3,-⟩:=HKc.out.cj;rw[HW.out,HG.out]at c0 c1 c2 c3;go_enter Tryz.func88,Tryz.ntmps88;go_wp2_with fail;go_ret;exact⟨Dt.ret_bool (by first | rfl | assumption),by have h:=HKc.out.below;rw[HW.out]at h;exact h⟩
 ·obtain rfl:z=false:=by rw[← hzz];exact decide_eq_false hs
  have f8:(xs.toList==(ByteArray.mk #[]).toList)=false:=bytes_ne hs
  have e0:(ByteArray.mk #[]).toList=[]:=by rw[ByteArray.toList_eq]
  have f10:=f8;rw[e0]at f10;clear e0 hs hzz;obtain⟨c0,c1,c2,c3,-⟩:=HKc.out.cj;rw[HW.out,HG.out]at c0 c1 c2 c3;go_enter Tryz.func88,Tryz.ntmps88;go_wp2_with fail;go_ret;exact⟨Dt.ret_bool (by first | rfl | assumption),by have h:=HKc.out.below;rw[HW.out]at h;exact h⟩
theorem onum_any (xA:Option Addr) (xn xc:Nat) (xa:Int) (xs:ByteArray) (xv:Int) (w:World) (z:Bool) (hz:decide (numP xa xv)=z) :
  Calls Tryz.prog 89 #[.agg #[.slice xA xn xc,.int .i64 xa,.string xs,.int .i64 xv]] w fun e w'=>e = .returned (.bool z)∧Below w.heap.size w w':=by
 obtain⟨g,hg⟩:∃ g,g=w.heap.size:=⟨_,rfl⟩;obtain⟨W,hW⟩:∃ W,W=w.alloc (.cells #[.slice xA xn xc,.int .i64 xa,.string xs,.int .i64 xv] 27):=⟨_,rfl⟩
 have hb0:Below w.heap.size w W:=by rw[hW];exact Dt.box_below _ _ _
 have HKc:Hid (Kept [(⟨g,0,none⟩,.slice xA xn xc),(⟨g,1,none⟩,.int .i64 xa),(⟨g,2,none⟩,.string xs),(⟨g,3,none⟩,.int .i64 xv)] w W):=by
  have h0:=Kept.nil_of hb0
  refine (((h0.cons_of ?_).cons_of ?_).cons_of ?_).cons_of ?_ <;> (rw[hW,hg];go_simp)
 have HG:=Lib.hid hg;have HW:=Lib.hid hW;clear hg hW;clear hb0
 by_cases h5:xa=5
 ·subst h5
  by_cases h1 : -1099511627776≤xv
  ·have g1:decide (-1099511627776≤xv)=true:=decide_eq_true h1
   have g2:decide (xv≤1099511627776)=z:=by
    rw[← hz];exact decide_eq_decide.2 ⟨fun h=>⟨fun _=>⟨h1,h⟩,fun h=>absurd rfl h⟩,fun h=>(h.1 rfl).2⟩
   clear hz h1;obtain⟨c0,c1,c2,c3,-⟩:=HKc.out.cj;rw[HW.out,HG.out]at c0 c1 c2 c3;go_enter Tryz.func89,Tryz.ntmps89;go_wp2_with fail;go_ret;exact⟨Dt.ret_bool (by first | rfl | assumption),by have h:=HKc.out.below;rw[HW.out]at h;exact h⟩
  ·have g1:decide (-1099511627776≤xv)=false:=decide_eq_false h1
   have g2:false=z:=by
    rw[← hz];exact (decide_eq_false fun h=>h1 (h.1 rfl).1).symm
   subst g2;clear hz h1;obtain⟨c0,c1,c2,c3,-⟩:=HKc.out.cj;rw[HW.out,HG.out]at c0 c1 c2 c3;go_enter Tryz.func89,Tryz.ntmps89;go_wp2_with fail;go_ret;exact⟨Dt.ret_bool (by first | rfl | assumption),by have h:=HKc.out.below;rw[HW.out]at h;exact h⟩
 have f5:(xa==5)=false:=by simpa using h5
 have g2:(xv==0)=z:=by
  rw[← hz,Bool.eq_iff_iff,beq_iff_eq,decide_eq_true_iff];exact⟨fun h=>⟨fun h2=>absurd h2 h5,fun _=>h⟩,fun h=>h.2 h5⟩
 clear hz h5;obtain⟨c0,c1,c2,c3,-⟩:=HKc.out.cj;rw[HW.out,HG.out]at c0 c1 c2 c3;go_enter Tryz.func89,Tryz.ntmps89;go_wp2_with fail;go_ret;exact⟨Dt.ret_bool (by first | rfl | assumption),by have h:=HKc.out.below;rw[HW.out]at h;exact h⟩
theorem ocheck_any (xp:List ByteArray) (xa:Int) (xs:ByteArray) (xv:Int) (xA:Option Addr) (xn xc:Nat) (w:World) (z:Int) (hz:opE ⟨xp,xa,xs,xv⟩=z) (hn:xn≤1000000) (hrx:Rd w w.heap.size 1 xA xn xc (strs xp)) :
  Calls Tryz.prog 42 #[.agg #[.slice xA xn xc,.int .i64 xa,.string xs,.int .i64 xv]] w fun e w'=>e = .returned (.int .i64 z)∧Below w.heap.size w w':=by
 obtain⟨g,hg⟩:∃ g,g=w.heap.size:=⟨_,rfl⟩;obtain⟨W,hW⟩:∃ W,W=w.alloc (.cells #[.slice xA xn xc,.int .i64 xa,.string xs,.int .i64 xv] 27):=⟨_,rfl⟩
 have hb0:Below w.heap.size w W:=by rw[hW];exact Dt.box_below _ _ _
 have HKc:Hid (Kept [(⟨g,0,none⟩,.slice xA xn xc),(⟨g,1,none⟩,.int .i64 xa),(⟨g,2,none⟩,.string xs),(⟨g,3,none⟩,.int .i64 xv)] w W):=by
  have h0:=Kept.nil_of hb0
  refine (((h0.cons_of ?_).cons_of ?_).cons_of ?_).cons_of ?_ <;> (rw[hW,hg];go_simp)
 have HG:=Lib.hid hg;have HW:=Lib.hid hW;clear hg hW;have HRX:=Lib.hid (hrx.later hb0);have HLX:=Lib.hid (rd_len1 hrx);have HZ:=Lib.hid hz;clear hrx hz hb0;obtain⟨y,hy⟩:∃ y,pathE xp=y:=⟨_,rfl⟩;have HY:=Lib.hid hy;clear hy;obtain⟨c0,c1,c2,c3,-⟩:=HKc.out.cj;go_enter Tryz.func42,Tryz.ntmps42;go_wp2_with fail;rw[← HG.out,← HW.out];refine (ocheckpath_any xp xn xA xc W y HY.out hn HRX.out).mono ?_;rintro e v1 ⟨rfl,he1⟩
 have hb9:Below W.heap.size W v1:=by rw[he1];exact Below.refl _ _
 clear he1;have HKc:=Lib.hid (HKc.out.later hb9);have HRX:=Lib.hid (HRX.out.later hb9);clear hb9;clear c0 c1 c2 c3
 by_cases hy0:y=0
 ·subst hy0
  have HPO:Hid (PathOk xp):=pathE_zero.1 HY.out
  obtain⟨m,rfl⟩:∃ m,xn=m+1:=by
   have h2:=HPO.out.some;have h3:=HLX.out
   cases xp with
   | nil=>exact absurd rfl h2
   | cons a l=>exact⟨l.length,by rw[← h3];rfl⟩
  have hm3:m≤2:=by have h1:=HPO.out.few;have h3:=HLX.out;omega
  obtain⟨kd,hkd⟩:∃ kd,kd=lastK xp:=⟨_,rfl⟩;obtain⟨ok,hok⟩:∃ ok,decide (actOk xa kd)=ok:=⟨_,rfl⟩;have HOK:=Lib.hid hok;have HKD:=Lib.hid hkd;clear hkd hok
  have hkl:m<xp.length:=by rw[HLX.out];omega
  obtain⟨b,o,rfl,hgl,hc⟩:=rd_text HRX.out (by omega);have q0:=hc m hkl;have hlk:lastK xp=kindK xp[m]:=lastK_get hkl HLX.out;obtain⟨kk,hkk⟩:∃ x,x=xp[m]:=⟨_,rfl⟩;rw[← hkk]at q0 hlk;have HLK:=Lib.hid hlk;have HKc:=Lib.hid (HKc.out.cons_of q0);clear hc hkk hlk q0 hkl
  have fw:IntKind.i64.wrap (m:Int)=(m:Int):=by rw[IntKind.wrap_i64];omega
  have fx:IntKind.i64.wrap ((m:Int)+1-1)=(m:Int):=by rw[IntKind.wrap_i64];omega
  have fy:(m:Int)<(m:Int)+1:=by omega
  obtain⟨c0,c1,c2,c3,c4,-⟩:=HKc.out.cj;go_wp2_with fail;clear c0 c1 c2 c3 c4
  cases ok with
  | false=>
   refine wp_region_held_drew (S:=Conj _) (by kernel_rfl) HKc.out.drew.cj (fun hHeld=>?_);obtain⟨v11,hv11⟩:∃ v,v=v1.drew:=⟨_,rfl⟩
   have hb9:Below v1.heap.size v1 v11:=by rw[hv11];exact (Below.refl _ _).drew
   have HKc:=Lib.hid (HKc.out.later hb9);have HRX:=Lib.hid (HRX.out.later hb9);clear hb9;rw[← hv11]at hHeld ⊢;clear hv11;refine Tk 0 10 ?_;refine Tk 1 11 ?_;refine Tk 2 12 ?_;refine Tk 3 13 ?_;refine Tk 4 14 ?_;refine Tk 5 15 ?_;refine Tk 6 16 ?_;refine Tk 7 17 ?_;refine Tk 8 18 ?_;refine Tk 9 19 ?_;refine Tc 10 (fun K hK=>?_);go_simp;(go_at_call 13;refine (okind_any kk v11).mono ?_);rw[← HLK.out,← HKD.out];rintro e v12 ⟨rfl,he1⟩
   have hb9:Below v11.heap.size v11 v12:=by rw[he1];exact Below.refl _ _
   clear he1;have HKc:=Lib.hid (HKc.out.later hb9);have HRX:=Lib.hid (HRX.out.later hb9);clear hb9;clear hHeld;refine Th hK ?_ (fun hHeld=>?_)
   ·exact HKc.out.cj
   clear hK K;refine Tc 11 (fun K hK=>?_);go_simp;(go_at_call 87;refine (oact_any xa kd v12 false HOK.out).mono ?_);rintro e v13 ⟨rfl,hb9⟩;have HKc:=Lib.hid (HKc.out.later hb9);have HRX:=Lib.hid (HRX.out.later hb9);clear hb9;clear hHeld;refine Th hK ?_ (fun hHeld=>?_)
   ·exact HKc.out.cj
   clear hK K;refine Tk 12 22 ?_;refine wpAnyH_done (by kernel_rfl) ?_ _;clear hHeld
   obtain rfl:z=6:=by
    rw[← HZ.out];exact opE_kind HY.out (by rw[← HKD.out];exact of_decide_eq_false HOK.out)
   go_wp2_with fail;go_ret;exact⟨rfl,HKc.out.below⟩
  | true=>
   refine wp_region_held_drew (S:=Conj _) (by kernel_rfl) HKc.out.drew.cj (fun hHeld=>?_);obtain⟨v11,hv11⟩:∃ v,v=v1.drew:=⟨_,rfl⟩
   have hb9:Below v1.heap.size v1 v11:=by rw[hv11];exact (Below.refl _ _).drew
   have HKc:=Lib.hid (HKc.out.later hb9);have HRX:=Lib.hid (HRX.out.later hb9);clear hb9;rw[← hv11]at hHeld ⊢;clear hv11;refine Tk 0 10 ?_;refine Tk 1 11 ?_;refine Tk 2 12 ?_;refine Tk 3 13 ?_;refine Tk 4 14 ?_;refine Tk 5 15 ?_;refine Tk 6 16 ?_;refine Tk 7 17 ?_;refine Tk 8 18 ?_;refine Tk 9 19 ?_;refine Tc 10 (fun K hK=>?_);go_simp;(go_at_call 13;refine (okind_any kk v11).mono ?_);rw[← HLK.out,← HKD.out];rintro e v12 ⟨rfl,he1⟩
   have hb9:Below v11.heap.size v11 v12:=by rw[he1];exact Below.refl _ _
   clear he1;have HKc:=Lib.hid (HKc.out.later hb9);have HRX:=Lib.hid (HRX.out.later hb9);clear hb9;clear hHeld;refine Th hK ?_ (fun hHeld=>?_)
   ·exact HKc.out.cj
   clear hK K;refine Tc 11 (fun K hK=>?_);go_simp;(go_at_call 87;refine (oact_any xa kd v12 true HOK.out).mono ?_);rintro e v13 ⟨rfl,hb9⟩;have HKc:=Lib.hid (HKc.out.later hb9);have HRX:=Lib.hid (HRX.out.later hb9);clear hb9;clear hHeld;refine Th hK ?_ (fun hHeld=>?_)
   ·exact HKc.out.cj
   clear hK K;refine Tk 12 22 ?_;refine wpAnyH_done (by kernel_rfl) ?_ _;clear hHeld
   have HAC:Hid (actOk xa (lastK xp)):=by rw[← HKD.out];exact of_decide_eq_true HOK.out
   have HIF:=Lib.hid (opOk_iff (v:=xv) (s:=xs) HPO.out HAC.out);obtain⟨zt,hzt⟩:∃ x,decide (textP xa xs)=x:=⟨_,rfl⟩;obtain⟨zn,hzn⟩:∃ x,decide (numP xa xv)=x:=⟨_,rfl⟩;have HZT:=Lib.hid hzt;have HZN:=Lib.hid hzn;clear hzt hzn;obtain⟨c0,c1,c2,c3,c4,-⟩:=HKc.out.cj;go_wp2_with fail;refine (otext_any (some ⟨b,o,none⟩) (m+1) xc xa xs xv v13 zt HZT.out).mono ?_;rintro e v14 ⟨rfl,hb9⟩;have HKc:=Lib.hid (HKc.out.later hb9);have HRX:=Lib.hid (HRX.out.later hb9);clear hb9;clear c0 c1 c2 c3 c4
   cases zt with
   | false=>
    obtain rfl:z=1:=by
     rw[← HZ.out];exact opE_no HY.out HAC.out fun h=>of_decide_eq_false HZT.out ⟨(HIF.out.1 h).1,(HIF.out.1 h).2.1,(HIF.out.1 h).2.2.1⟩
    go_wp2_with fail;go_ret;exact⟨rfl,HKc.out.below⟩
   | true=>
    obtain⟨c0,c1,c2,c3,c4,-⟩:=HKc.out.cj;go_wp2_with fail;refine (onum_any (some ⟨b,o,none⟩) (m+1) xc xa xs xv v14 zn HZN.out).mono ?_;rintro e v15 ⟨rfl,hb9⟩;have HKc:=Lib.hid (HKc.out.later hb9);have HRX:=Lib.hid (HRX.out.later hb9);clear hb9;clear c0 c1 c2 c3 c4
    cases zn with
    | false=>
     obtain rfl:z=1:=by
      rw[← HZ.out];exact opE_no HY.out HAC.out fun h=>of_decide_eq_false HZN.out (HIF.out.1 h).2.2.2
     go_wp2_with fail;go_ret;exact⟨rfl,HKc.out.below⟩
    | true=>
     obtain rfl:z=0:=by
      rw[← HZ.out];have h1:=of_decide_eq_true HZT.out;have h2:=of_decide_eq_true HZN.out;exact opE_ok (HIF.out.2 ⟨h1.1,h1.2.1,h1.2.2,h2⟩)
     go_wp2_with fail;go_ret;exact⟨rfl,HKc.out.below⟩
 ·obtain rfl:z=y:=by
   rw[← HZ.out,← HY.out];exact opE_path (by rw[HY.out];exact hy0)
  have f0:(z != 0)=true:=by simpa using hy0
  go_wp2_with fail;go_ret;exact⟨rfl,HKc.out.below⟩
end Cs
end Go.Proofs.YtgeafpaognhokaaGreat
