/- Texts of the lower layers, and of layer 9, put together. -/
import Derived.Test.YtcbpgemiffmieaaGreatOpRef1
import Derived.Lib.Strings
import Derived.Lib.Slices
import Derived.Lib.Walk
import Derived.Lib.Bytealg
import Derived.Test.YtcbpgemiffmieaaGreatG00
import Derived.Test.YtcbpgemiffmieaaGreatG01
import Derived.Test.YtcbpgemiffmieaaGreatG20
import Derived.Test.YtcbpgemiffmieaaGreatG50
import Derived.Test.YtcbpgemiffmieaaGreatCauJoin
import Derived.Test.YtcbpgemiffmieaaGreatTreeRefSame
import Derived.Test.YtcbpgemiffmieaaGreatG10
set_option maxRecDepth 100000
set_option maxHeartbeats 4000000
namespace Go.Proofs.YtcbpgemiffmieaaGreat
open Go.ChangeShapes Go.WideShapes Go.ChangeAt Go.RowKit
namespace Cs
open Tr Cx Sp Rw Classical
theorem kindK_five (k:ByteArray):kindK k≤5:=by
 unfold kindK
 split <;> omega
theorem slindex_any (s:ByteArray) (c:Int) (w:World) :
  Calls Tryz.prog 163 #[.string s,.int .u8 c] w fun e w'=>e = .returned (.int .i64 (Lib.indexByte s.data.toList c.toNat.toUInt8))∧w'=w:=by
 go_enter Tryz.func163,Tryz.ntmps163;go_wp2;rw[run_callFunc_extern Tryz.func167 (by kernel_rfl) (by kernel_rfl) (by kernel_rfl) (e:=Extern.BytealgIndexByte.indexByte) (by kernel_rfl),Lib.run_indexByteString];simp only[Result.andThen];rw[Oper.upon_value];go_wp2;go_ret;exact⟨rfl,rfl⟩
theorem strindex_any (s:ByteArray) (c:Int) (w:World) :
  Calls Tryz.prog 154 #[.string s,.int .u8 c] w fun e w'=>e = .returned (.int .i64 (Lib.indexByte s.data.toList c.toNat.toUInt8))∧w'=w:=by
 go_enter Tryz.func154,Tryz.ntmps154;go_wp2_with (go_at_call 163;refine (slindex_any _ _ _).mono ?_;rintro e w' ⟨rfl,rfl⟩);go_ret;exact⟨rfl,rfl⟩
theorem kind_at (c:UInt8) (l:List UInt8):1+Lib.indexByte [102,115,99,114,109] c=((kindK ⟨⟨c::l⟩⟩:Nat):Int):=by
 by_cases h1:c=102
 ·subst h1;rfl
 by_cases h2:c=115
 ·subst h2;rfl
 by_cases h3:c=99
 ·subst h3;rfl
 by_cases h4:c=114
 ·subst h4;rfl
 by_cases h5:c=109
 ·subst h5;rfl
 rw[kind_no ⟨h1,h2,h3,h4,h5⟩]
 have e1:((102:UInt8)==c)=false:=by rw[beq_eq_false_iff_ne];exact fun h=>h1 h.symm
 have e2:((115:UInt8)==c)=false:=by rw[beq_eq_false_iff_ne];exact fun h=>h2 h.symm
 have e3:((99:UInt8)==c)=false:=by rw[beq_eq_false_iff_ne];exact fun h=>h3 h.symm
 have e4:((114:UInt8)==c)=false:=by rw[beq_eq_false_iff_ne];exact fun h=>h4 h.symm
 have e5:((109:UInt8)==c)=false:=by rw[beq_eq_false_iff_ne];exact fun h=>h5 h.symm
 simp[Lib.indexByte,e1,e2,e3,e4,e5]
theorem okind_any (key:ByteArray) (w:World) :
  Calls Tryz.prog 136 #[.string key] w fun e w'=>e = .returned (.int .i64 (kindK key))∧w'=w:=by
 obtain⟨⟨l⟩⟩:=key
 cases l with
 | nil=>
  go_enter Tryz.func136,Tryz.ntmps136;go_wp2_with fail;go_ret;exact⟨rfl,rfl⟩
 | cons c l=>
  obtain⟨n,hn⟩:∃ n,n=kindK ⟨⟨c::l⟩⟩:=⟨_,rfl⟩;have hk:=kind_at c l;rw[← hn]at hk ⊢
  have hn5:n≤5:=by rw[hn];exact kindK_five _
  have f8:((ByteArray.mk ⟨c::l⟩).toList==(ByteArray.mk #[]).toList)=false:=bytes_ne (fun h=>by injection h with h;injection h with h;cases h)
  have f9:((ByteArray.mk ⟨c::l⟩).toList != (ByteArray.mk #[]).toList)=true:=by unfold bne;rw[f8];rfl
  have e0:(ByteArray.mk #[]).toList=[]:=by rw[ByteArray.toList_eq]
  have f10:=f8;have f11:=f9;rw[e0]at f10 f11
  have HSZ:0<(ByteArray.mk ⟨c::l⟩).size:=by show 0<(c::l).length;simp
  have hg:(((ByteArray.mk ⟨c::l⟩)[0]'HSZ).toNat:Int).toNat.toUInt8=c:=by
   show ((c.toNat:Nat):Int).toNat.toUInt8=c;simp
  have HK:Hid (1+Lib.indexByte [102,115,99,114,109] c=(n:Int)):=hk;have HG:=Lib.hid hg;have HN5:=Lib.hid hn5;clear hn hk e0 hg hn5;go_enter Tryz.func136,Tryz.ntmps136;go_wp2_with fail;refine (strindex_any _ _ _).mono ?_;rintro e w' ⟨rfl,rfl⟩
  have hw:IntKind.i64.wrap (1+Lib.indexByte [102,115,99,114,109] c)=(n:Int):=by rw[HK.out,IntKind.wrap_i64];have:=HN5.out;omega
  rw[HG.out];go_wp2_with fail;go_ret;exact⟨rfl,rfl⟩
end Cs
end Go.Proofs.YtcbpgemiffmieaaGreat
namespace Go.Proofs.YtcbpgemiffmieaaGreat
open Go.ChangeShapes Go.WideShapes Go.ChangeAt Go.RowKit
namespace Cs
open Tr Cx Sp Rw Classical
theorem infoT:(Tryz.prog.info? 9).map (fun i=>(i.zero,i.size,i.bytes))=some (some (.string ⟨#[]⟩),1,16):=by kernel_rfl
theorem cut_strs (A:Option Addr) (n c k:Nat) (hk:k≤c) (W:World):(Instr.slice 38 (.slice A n c) none (some (.int .i64 (k:Nat))) none).run Tryz.prog W = .ok (.slice A k c) W:=by
 obtain⟨i0,hi0,hz0,hz1,hz2⟩:=info_of infoT;exact run_cut_to (P:=Tryz.prog) 38 9 1 Tryz.underlying38 hi0 hz1 A n c k hk W
theorem rd_cut {w:World} {B n c k:Nat} {A:Option Addr} {l:List ByteArray} (h:Rd w B 1 A n c (strs l)) (hk:k≤n):Rd w B 1 A k c (strs (l.take k)):=by
 have hl:=rd_len1 h;refine⟨?_,Nat.le_trans hk h.cap,fun u hu=>h.one u ?_,fun h0=>?_⟩
 ·rw[strs_len,List.length_take];omega
 ·unfold Tr.strs at hu ⊢
  rw[List.map_take]at hu;exact List.mem_of_mem_take hu
 ·obtain⟨b,o,e,hb,hc⟩:=h.at_ (by omega)
  refine⟨b,o,e,hb,fun j u hu=>hc j u ?_⟩;unfold Tr.strs at hu ⊢;rw[List.map_take,List.getElem?_take]at hu
  split at hu
  ·exact hu
  ·cases hu
end Cs
end Go.Proofs.YtcbpgemiffmieaaGreat
set_option maxRecDepth 100000
set_option maxHeartbeats 4000000
namespace Go.Proofs.YtcbpgemiffmieaaGreat
open Go.ChangeShapes Go.WideShapes Go.ChangeAt Go.RowKit
namespace Cs
open Tr Cx Sp Rw Classical
def badK (k:ByteArray):Bool:=decide (30<k.size)||decide (kindK k=0)
def noMap (k:ByteArray):Bool:=!decide (kindK k=5)
theorem bad_any {l:List ByteArray} : l.any badK=true↔∃ k∈l,30<k.size∨kindK k=0:=by
 rw[List.any_eq_true];unfold badK;exact exists_congr fun k=>and_congr Iff.rfl (by rw[Bool.or_eq_true,decide_eq_true_iff,decide_eq_true_iff])
theorem nomap_any {l:List ByteArray} {m:Nat} (hl:l.length=m+1):(l.take m).any noMap=true↔∃ (i:Nat) (h:i<l.length),i+1<l.length∧kindK l[i]≠5:=by
 rw[List.any_eq_true];unfold noMap;constructor
 ·rintro⟨k,hk,h2⟩
  obtain⟨i,hi,rfl⟩:=List.getElem_of_mem hk;rw[List.length_take]at hi;refine⟨i,by omega,by omega,?_⟩;rw[List.getElem_take]at h2
  simpa using h2
 ·rintro⟨i,hi,h1,h2⟩
  have h3:i<(l.take m).length:=by rw[List.length_take];omega
  refine⟨(l.take m)[i],List.getElem_mem h3,?_⟩;rw[List.getElem_take]
  simpa using h2
theorem badkey_any (key:ByteArray) (w:World):Calls Tryz.prog 152 #[.string key] w fun e w'=>e = .returned (.bool (badK key))∧w'=w:=by
 obtain⟨kd,hkd⟩:∃ k,kindK key=k:=⟨_,rfl⟩;have H:=fun W=>Lib.hid (okind_any key W);rw[hkd]at H
 by_cases h30:30<key.size
 ·have f0:decide ((30:Int)<(key.size:Int))=true:=decide_eq_true (by omega)
  have e1:badK key=true:=by unfold badK;rw[decide_eq_true h30];rfl
  rw[e1];clear h30 e1 hkd;go_enter Tryz.func152,Tryz.ntmps152;go_wp2_with fail;go_ret;exact⟨rfl,rfl⟩
 ·have f0:decide ((30:Int)<(key.size:Int))=false:=decide_eq_false (by omega)
  have e1:badK key=decide (kd=0):=by unfold badK;rw[decide_eq_false h30,hkd];rfl
  rw[e1]
  have f1:((kd:Int)==0)=decide (kd=0):=by rw[Bool.eq_iff_iff,beq_iff_eq,decide_eq_true_iff];omega
  clear h30 e1 hkd;go_enter Tryz.func152,Tryz.ntmps152;go_wp2_with fail;refine (H _).out.mono ?_;rintro e w' ⟨rfl,rfl⟩;go_wp2_with fail;go_ret;exact⟨Dt.ret_bool (by first | exact f1 | rfl),rfl⟩
theorem nomapkey_any (key:ByteArray) (w:World):Calls Tryz.prog 153 #[.string key] w fun e w'=>e = .returned (.bool (noMap key))∧w'=w:=by
 obtain⟨kd,hkd⟩:∃ k,kindK key=k:=⟨_,rfl⟩;have H:=fun W=>Lib.hid (okind_any key W);rw[hkd]at H
 have e1:noMap key=((kd:Int) != 5):=by unfold noMap;rw[hkd,Bool.eq_iff_iff,bne_iff_ne,Bool.not_eq_true',decide_eq_false_iff_not];omega
 rw[e1];clear hkd e1;go_enter Tryz.func153,Tryz.ntmps153;go_wp2_with fail;refine (H _).out.mono ?_;rintro e w' ⟨rfl,rfl⟩;go_wp2_with fail;go_ret;exact⟨rfl,rfl⟩
set_option maxHeartbeats 1000000 in
theorem badindex_any (l:List ByteArray) (n:Nat) (A:Option Addr) (c:Nat) (w:World) (z:Bool) (hz:l.any badK=z) (hn:n≤1000000) (hr:Rd w w.heap.size 1 A n c (strs l)) :
  Calls Tryz.prog 162 #[.slice A n c,.func (.func 152) #[] #[]] w fun e w'=>∃ r:Int,e = .returned (.int .i64 r)∧(decide (0≤r)=z)∧w'=w:=by
 have HL:=Lib.hid (rd_len1 hr);have HR:=Lib.hid hr;have HBZ:=Lib.hid hz;clear hr hz;go_enter Tryz.func162,Tryz.ntmps162;go_wp2_with fail
 go_loopw [8] (fun i wr=>∃ k:Nat,k≤n∧i = .int .i64 k∧Hid (∀ x∈l.take k,badK x=false)∧wr=w) (fun i _=>n-(intOf i).toNat)
 case atStart=>exact⟨0,by omega,rfl,fun x hx=>by simp at hx,rfl⟩
 case round=>
  obtain⟨k,hk,rfl,HA,rfl⟩:=hrel
  by_cases hlt:k<n
  ·have hkl:k<l.length:=by rw[HL.out];exact hlt
   obtain⟨b,o,rfl,hb,hc⟩:=HR.out.at_ (by omega);obtain⟨x,hx⟩:∃ x,x=l[k]:=⟨_,rfl⟩;have cx:=hc k (.string x) (by rw[hx];simp[Tr.strs,hkl])
   have htk:l.take (k+1)=l.take k++[x]:=by rw[hx];exact List.take_succ_eq_append_getElem hkl
   have hmem:x∈l:=by rw[hx];exact List.getElem_mem hkl
   have HW:=fun W=>Lib.hid (badkey_any x W)
   cases hz:badK x with
   | false=>
    rw[hz]at HW
    have HA2:Hid (∀ x∈l.take (k+1),badK x=false):=fun y hy=>by
     rw[htk]at hy
     rcases List.mem_append.1 hy with hy | hy
     ·exact HA.out y hy
     ·rw[List.mem_singleton.1 hy];exact hz
    clear hc hx htk hmem hz;go_wp2_with (go_at_call 152;refine (HW _).out.mono ?_;rintro e w' ⟨rfl,rfl⟩);go_roundw
    case rel=>exact⟨k+1,by omega,by go_num,HA2.out,by first | rfl | trivial⟩
    case measure=>simp[intOf];omega
   | true=>
    rw[hz]at HW
    have hbad:z=true:=by
     rw[← HBZ.out];exact List.any_eq_true.2 ⟨x,hmem,hz⟩
    have HBAD:=Lib.hid hbad;clear hc hx htk hmem hz hbad;go_wp2_with (go_at_call 152;refine (HW _).out.mono ?_;rintro e w' ⟨rfl,rfl⟩);go_ret;exact⟨k,rfl,by rw[HBAD.out];exact decide_eq_true (by omega),rfl⟩
  ·obtain rfl:k=n:=by omega
   have hbad:z=false:=by
    rw[← HBZ.out,List.any_eq_false];intro x hx h2;have h3:=HA.out x (by rw[List.take_of_length_le (by rw[HL.out];omega)];exact hx);rw[h3]at h2
    cases h2
   have HBAD:=Lib.hid hbad;clear hbad;go_wp2_with fail;go_ret;exact⟨-1,rfl,by rw[HBAD.out];rfl,rfl⟩
theorem badsome_any (l:List ByteArray) (n:Nat) (A:Option Addr) (c:Nat) (w:World) (z:Bool) (hz:l.any badK=z) (hn:n≤1000000) (hr:Rd w w.heap.size 1 A n c (strs l)) :
  Calls Tryz.prog 151 #[.slice A n c,.func (.func 152) #[] #[]] w fun e w'=>e = .returned (.bool z)∧w'=w:=by
 have H:=Lib.hid (badindex_any l n A c w z hz hn hr);clear hr hz;go_enter Tryz.func151,Tryz.ntmps151;go_wp2_with fail;refine H.out.mono ?_;rintro e w' ⟨r,rfl,hr,rfl⟩;go_wp2_with fail;go_ret;exact⟨Dt.ret_bool (by first | exact hr | rfl),rfl⟩
set_option maxHeartbeats 1000000 in
theorem nomapindex_any (l:List ByteArray) (n:Nat) (A:Option Addr) (c:Nat) (w:World) (z:Bool) (hz:l.any noMap=z) (hn:n≤1000000) (hr:Rd w w.heap.size 1 A n c (strs l)) :
  Calls Tryz.prog 162 #[.slice A n c,.func (.func 153) #[] #[]] w fun e w'=>∃ r:Int,e = .returned (.int .i64 r)∧(decide (0≤r)=z)∧w'=w:=by
 have HL:=Lib.hid (rd_len1 hr);have HR:=Lib.hid hr;have HBZ:=Lib.hid hz;clear hr hz;go_enter Tryz.func162,Tryz.ntmps162;go_wp2_with fail
 go_loopw [8] (fun i wr=>∃ k:Nat,k≤n∧i = .int .i64 k∧Hid (∀ x∈l.take k,noMap x=false)∧wr=w) (fun i _=>n-(intOf i).toNat)
 case atStart=>exact⟨0,by omega,rfl,fun x hx=>by simp at hx,rfl⟩
 case round=>
  obtain⟨k,hk,rfl,HA,rfl⟩:=hrel
  by_cases hlt:k<n
  ·have hkl:k<l.length:=by rw[HL.out];exact hlt
   obtain⟨b,o,rfl,hb,hc⟩:=HR.out.at_ (by omega);obtain⟨x,hx⟩:∃ x,x=l[k]:=⟨_,rfl⟩;have cx:=hc k (.string x) (by rw[hx];simp[Tr.strs,hkl])
   have htk:l.take (k+1)=l.take k++[x]:=by rw[hx];exact List.take_succ_eq_append_getElem hkl
   have hmem:x∈l:=by rw[hx];exact List.getElem_mem hkl
   have HW:=fun W=>Lib.hid (nomapkey_any x W)
   cases hz:noMap x with
   | false=>
    rw[hz]at HW
    have HA2:Hid (∀ x∈l.take (k+1),noMap x=false):=fun y hy=>by
     rw[htk]at hy
     rcases List.mem_append.1 hy with hy | hy
     ·exact HA.out y hy
     ·rw[List.mem_singleton.1 hy];exact hz
    clear hc hx htk hmem hz;go_wp2_with (go_at_call 153;refine (HW _).out.mono ?_;rintro e w' ⟨rfl,rfl⟩);go_roundw
    case rel=>exact⟨k+1,by omega,by go_num,HA2.out,by first | rfl | trivial⟩
    case measure=>simp[intOf];omega
   | true=>
    rw[hz]at HW
    have hbad:z=true:=by
     rw[← HBZ.out];exact List.any_eq_true.2 ⟨x,hmem,hz⟩
    have HBAD:=Lib.hid hbad;clear hc hx htk hmem hz hbad;go_wp2_with (go_at_call 153;refine (HW _).out.mono ?_;rintro e w' ⟨rfl,rfl⟩);go_ret;exact⟨k,rfl,by rw[HBAD.out];exact decide_eq_true (by omega),rfl⟩
  ·obtain rfl:k=n:=by omega
   have hbad:z=false:=by
    rw[← HBZ.out,List.any_eq_false];intro x hx h2;have h3:=HA.out x (by rw[List.take_of_length_le (by rw[HL.out];omega)];exact hx);rw[h3]at h2
    cases h2
   have HBAD:=Lib.hid hbad;clear hbad;go_wp2_with fail;go_ret;exact⟨-1,rfl,by rw[HBAD.out];rfl,rfl⟩
theorem nomapsome_any (l:List ByteArray) (n:Nat) (A:Option Addr) (c:Nat) (w:World) (z:Bool) (hz:l.any noMap=z) (hn:n≤1000000) (hr:Rd w w.heap.size 1 A n c (strs l)) :
  Calls Tryz.prog 151 #[.slice A n c,.func (.func 153) #[] #[]] w fun e w'=>e = .returned (.bool z)∧w'=w:=by
 have H:=Lib.hid (nomapindex_any l n A c w z hz hn hr);clear hr hz;go_enter Tryz.func151,Tryz.ntmps151;go_wp2_with fail;refine H.out.mono ?_;rintro e w' ⟨r,rfl,hr,rfl⟩;go_wp2_with fail;go_ret;exact⟨Dt.ret_bool (by first | exact hr | rfl),rfl⟩
theorem ocheckpath_any (l:List ByteArray) (n:Nat) (A:Option Addr) (c:Nat) (w:World) (z:Int) (hz:pathE l=z) (hn:n≤1000000) (hr:Rd w w.heap.size 1 A n c (strs l)) :
  Calls Tryz.prog 134 #[.slice A n c] w fun e w'=>e = .returned (.int .i64 z)∧w'=w:=by
 have HL:=Lib.hid (rd_len1 hr);have HR:=Lib.hid hr;have HZ:=Lib.hid hz;clear hr hz
 by_cases h1:n<1
 ·have f1:decide ((n:Int)<1)=true:=decide_eq_true (by omega)
  obtain rfl:z=1:=by
   rw[← HZ.out];exact pathE_one (.inl (List.length_eq_zero_iff.1 (by rw[HL.out];omega)))
  clear h1;go_enter Tryz.func134,Tryz.ntmps134;go_wp2_with fail;go_ret;exact⟨rfl,rfl⟩
 have f1:decide ((n:Int)<1)=false:=decide_eq_false (by omega)
 by_cases h3:3<n
 ·have f3:decide ((3:Int)<(n:Int))=true:=decide_eq_true (by omega)
  obtain rfl:z=1:=by
   rw[← HZ.out];exact pathE_one (.inr (.inl (by rw[HL.out];omega)))
  clear h1 h3;go_enter Tryz.func134,Tryz.ntmps134;go_wp2_with fail;go_ret;exact⟨rfl,rfl⟩
 have f3:decide ((3:Int)<(n:Int))=false:=decide_eq_false (by omega);obtain⟨m,rfl⟩:∃ m,n=m+1:=⟨n-1,by omega⟩
 have HM:Hid (m≤2):=by unfold Hid;omega
 have f1m:decide ((m:Int)+1<1)=false:=decide_eq_false (by omega);have f3m:decide (3<(m:Int)+1)=false:=decide_eq_false (by have:=HM.out;omega);obtain⟨z1,hz1⟩:∃ z,l.any badK=z:=⟨_,rfl⟩;have HB:=Lib.hid (badsome_any l (m+1) A c w z1 hz1 (by omega) HR.out)
 cases z1 with
 | true=>
  obtain rfl:z=1:=by
   rw[← HZ.out];exact pathE_one (.inr (.inr (bad_any.1 hz1)))
  clear h1 h3 hz1;go_enter Tryz.func134,Tryz.ntmps134;go_wp2_with fail;refine HB.out.mono ?_;rintro e w' ⟨rfl,rfl⟩;go_wp2_with fail;go_ret;exact⟨rfl,rfl⟩
 | false=>
  obtain⟨z2,hz2⟩:∃ z,(l.take m).any noMap=z:=⟨_,rfl⟩
  have hcap:m≤c:=by have:=HR.out.cap;omega
  have HC:=fun W=>cut_strs A (m+1) c m hcap W;have hcw:=HC w;have HN:=Lib.hid (nomapsome_any (l.take m) m A c w z2 hz2 (by omega) (rd_cut HR.out (by omega)))
  have fw:IntKind.i64.wrap ((m:Int)+1-1)=(m:Int):=by have:=HM.out;rw[IntKind.wrap_i64];omega
  have fx:((m:Int)+1-1)=(m:Int):=by omega
  have hnot:¬(l=[]∨3<l.length∨(∃ k∈l,30<k.size∨kindK k=0)):=by
   rintro (h | h | h)
   ·have h2:=HL.out;rw[h]at h2;cases h2
   ·have h2:=HL.out;omega
   ·rw[← bad_any,hz1]at h;cases h
  obtain⟨ez,hez⟩:∃ x:Int,x=if z2=true then 6 else 0:=⟨_,rfl⟩
  have hzz:z=ez:=by
   rw[← HZ.out,hez]
   cases z2 with
   | true=>rw[if_pos rfl];exact pathE_six hnot ((nomap_any HL.out).1 hz2)
   | false=>rw[if_neg (by decide)];exact pathE_ok hnot (fun h=>by rw[← nomap_any HL.out,hz2]at h;cases h)
  subst hzz;have HEZ:=Lib.hid hez;clear h1 h3 hz1 hz2 hnot HC hcap hez;go_enter Tryz.func134,Tryz.ntmps134;go_wp2_with fail;refine HB.out.mono ?_;rintro e w' ⟨rfl,rfl⟩;go_wp2_with fail;refine HN.out.mono ?_;rintro e w' ⟨rfl,rfl⟩
  cases z2 with
  | true=>
   obtain rfl:z=6:=HEZ.out;go_wp2_with fail;go_ret;exact⟨rfl,rfl⟩
  | false=>
   obtain rfl:z=0:=HEZ.out;go_wp2_with fail;go_ret;exact⟨rfl,rfl⟩
end Cs
end Go.Proofs.YtcbpgemiffmieaaGreat
set_option maxRecDepth 100000
set_option maxHeartbeats 4000000
namespace Go.Proofs.YtcbpgemiffmieaaGreat
open Go.ChangeShapes Go.WideShapes Go.ChangeAt Go.RowKit
namespace Cs
open Tr Cx Sp Rw Classical
theorem oact_any (a:Int) (k:Nat) (w:World) (z:Bool) (hz:decide (actOk a k)=z) :
  Calls Tryz.prog 135 #[.int .i64 a,.int .i64 k] w fun e w'=>e = .returned (.bool z)∧Below w.heap.size w w':=by
 by_cases h1:a=1
 ·subst h1
  have fk:((k:Int)==1)=z:=by
   rw[← hz,Bool.eq_iff_iff,beq_iff_eq,decide_eq_true_iff];unfold actOk;omega
  clear hz;go_enter Tryz.func135,Tryz.ntmps135;go_wp2_with fail;go_ret;exact⟨rfl,Below.refl _ _⟩
 have f1:(a==1)=false:=by simpa using h1
 by_cases h2:a=2
 ·subst h2
  have fk:((k:Int)==1)=z:=by
   rw[← hz,Bool.eq_iff_iff,beq_iff_eq,decide_eq_true_iff];unfold actOk;omega
  clear hz;go_enter Tryz.func135,Tryz.ntmps135;go_wp2_with fail;go_ret;exact⟨rfl,Below.refl _ _⟩
 have f2:(a==2)=false:=by simpa using h2
 by_cases h3:a=3
 ·subst h3
  have fk:((k:Int)==2)=z:=by
   rw[← hz,Bool.eq_iff_iff,beq_iff_eq,decide_eq_true_iff];unfold actOk;omega
  clear hz;go_enter Tryz.func135,Tryz.ntmps135;go_wp2_with fail;go_ret;exact⟨rfl,Below.refl _ _⟩
 have f3:(a==3)=false:=by simpa using h3
 by_cases h4:a=4
 ·subst h4
  have fk:((k:Int)==2)=z:=by
   rw[← hz,Bool.eq_iff_iff,beq_iff_eq,decide_eq_true_iff];unfold actOk;omega
  clear hz;go_enter Tryz.func135,Tryz.ntmps135;go_wp2_with fail;go_ret;exact⟨rfl,Below.refl _ _⟩
 have f4:(a==4)=false:=by simpa using h4
 by_cases h5:a=5
 ·subst h5
  have fk:((k:Int)==3)=z:=by
   rw[← hz,Bool.eq_iff_iff,beq_iff_eq,decide_eq_true_iff];unfold actOk;omega
  clear hz;go_enter Tryz.func135,Tryz.ntmps135;go_wp2_with fail;go_ret;exact⟨rfl,Below.refl _ _⟩
 have f5:(a==5)=false:=by simpa using h5
 by_cases h6:a=6
 ·subst h6
  have fk:((k:Int)==4)=z:=by
   rw[← hz,Bool.eq_iff_iff,beq_iff_eq,decide_eq_true_iff];unfold actOk;omega
  clear hz;go_enter Tryz.func135,Tryz.ntmps135;go_wp2_with fail;go_ret;exact⟨rfl,Below.refl _ _⟩
 have f6:(a==6)=false:=by simpa using h6
 have f7:(a==7)=z:=by
  rw[← hz,Bool.eq_iff_iff,beq_iff_eq,decide_eq_true_iff];unfold actOk;omega
 clear hz h1 h2 h3 h4 h5 h6;go_enter Tryz.func135,Tryz.ntmps135;go_wp2_with fail;go_ret;exact⟨rfl,Below.refl _ _⟩
def textP (a:Int) (s:ByteArray):Prop:=((a=3∨a=4)→KeyOk s)∧(a=6→s.size≤30)∧(¬(a=3∨a=4∨a=6)→s=⟨#[]⟩)
def numP (a v:Int):Prop:=(a=5 → -1099511627776≤v∧v≤1099511627776)∧(a≠5→v=0)
theorem otext_any (xA:Option Addr) (xn xc:Nat) (xa:Int) (xs:ByteArray) (xv:Int) (w:World) (z:Bool) (hz:decide (textP xa xs)=z) :
  Calls Tryz.prog 137 #[.agg #[.slice xA xn xc,.int .i64 xa,.string xs,.int .i64 xv]] w fun e w'=>e = .returned (.bool z)∧Below w.heap.size w w':=by
 obtain⟨g,hg⟩:∃ g,g=w.heap.size:=⟨_,rfl⟩;obtain⟨W,hW⟩:∃ W,W=w.alloc (.cells #[.slice xA xn xc,.int .i64 xa,.string xs,.int .i64 xv] 40):=⟨_,rfl⟩
 have hb0:Below w.heap.size w W:=by rw[hW];exact Dt.box_below _ _ _
 have HKc:Hid (Kept [(⟨g,0,none⟩,.slice xA xn xc),(⟨g,1,none⟩,.int .i64 xa),(⟨g,2,none⟩,.string xs),(⟨g,3,none⟩,.int .i64 xv)] w W):=by
  have h0:=Kept.nil_of hb0
  refine (((h0.cons_of ?_).cons_of ?_).cons_of ?_).cons_of ?_ <;> (rw[hW,hg];go_simp)
 have HG:=Lib.hid hg;have HW:=Lib.hid hW;clear hg hW;clear hb0
 by_cases h3:xa=3
 ·subst h3
  by_cases h1:1≤xs.size
  ·have g1:decide ((1:Int)≤(xs.size:Int))=true:=decide_eq_true (by omega)
   have g2:decide ((xs.size:Int)≤30)=z:=by
    rw[← hz,Bool.eq_iff_iff,decide_eq_true_iff,decide_eq_true_iff];exact⟨fun h=>⟨fun _=>⟨by omega,by omega⟩,fun h=>absurd h (by decide),fun h=>absurd (by decide) h⟩,fun h=>by have h3:=(h.1 (by decide)).2;omega⟩
   clear hz h1;obtain⟨c0,c1,c2,c3,-⟩:=HKc.out.cj;rw[HW.out,HG.out]at c0 c1 c2 c3;go_enter Tryz.func137,Tryz.ntmps137;go_wp2_with fail;go_ret;exact⟨Dt.ret_bool (by first | rfl | assumption),by have h:=HKc.out.below;rw[HW.out]at h;exact h⟩
  ·have g1:decide ((1:Int)≤(xs.size:Int))=false:=decide_eq_false (by omega)
   have g2:false=z:=by
    rw[← hz];exact (decide_eq_false fun h=>by have h3:=(h.1 (by decide)).1;omega).symm
   subst g2;clear hz h1;obtain⟨c0,c1,c2,c3,-⟩:=HKc.out.cj;rw[HW.out,HG.out]at c0 c1 c2 c3;go_enter Tryz.func137,Tryz.ntmps137;go_wp2_with fail;go_ret;exact⟨Dt.ret_bool (by first | rfl | assumption),by have h:=HKc.out.below;rw[HW.out]at h;exact h⟩
 by_cases h4:xa=4
 ·subst h4
  by_cases h1:1≤xs.size
  ·have g1:decide ((1:Int)≤(xs.size:Int))=true:=decide_eq_true (by omega)
   have g2:decide ((xs.size:Int)≤30)=z:=by
    rw[← hz,Bool.eq_iff_iff,decide_eq_true_iff,decide_eq_true_iff];exact⟨fun h=>⟨fun _=>⟨by omega,by omega⟩,fun h=>absurd h (by decide),fun h=>absurd (by decide) h⟩,fun h=>by have h3:=(h.1 (by decide)).2;omega⟩
   clear hz h1;obtain⟨c0,c1,c2,c3,-⟩:=HKc.out.cj;rw[HW.out,HG.out]at c0 c1 c2 c3;go_enter Tryz.func137,Tryz.ntmps137;go_wp2_with fail;go_ret;exact⟨Dt.ret_bool (by first | rfl | assumption),by have h:=HKc.out.below;rw[HW.out]at h;exact h⟩
  ·have g1:decide ((1:Int)≤(xs.size:Int))=false:=decide_eq_false (by omega)
   have g2:false=z:=by
    rw[← hz];exact (decide_eq_false fun h=>by have h3:=(h.1 (by decide)).1;omega).symm
   subst g2;clear hz h1;obtain⟨c0,c1,c2,c3,-⟩:=HKc.out.cj;rw[HW.out,HG.out]at c0 c1 c2 c3;go_enter Tryz.func137,Tryz.ntmps137;go_wp2_with fail;go_ret;exact⟨Dt.ret_bool (by first | rfl | assumption),by have h:=HKc.out.below;rw[HW.out]at h;exact h⟩
 by_cases h6:xa=6
 ·subst h6
  have g2:decide ((xs.size:Int)≤30)=z:=by
   rw[← hz,Bool.eq_iff_iff,decide_eq_true_iff,decide_eq_true_iff];exact⟨fun h=>⟨fun h=>absurd h (by decide),fun _=>by omega,fun h=>absurd (by decide) h⟩,fun h=>by have h3:=h.2.1 rfl;omega⟩
  clear hz h3 h4;obtain⟨c0,c1,c2,c3,-⟩:=HKc.out.cj;rw[HW.out,HG.out]at c0 c1 c2 c3;go_enter Tryz.func137,Tryz.ntmps137;go_wp2_with fail;go_ret;exact⟨Dt.ret_bool (by first | rfl | assumption),by have h:=HKc.out.below;rw[HW.out]at h;exact h⟩
 have f3:(xa==3)=false:=by simpa using h3
 have f4:(xa==4)=false:=by simpa using h4
 have f6:(xa==6)=false:=by simpa using h6
 have hzz:decide (xs=⟨#[]⟩)=z:=by
  rw[← hz];exact decide_eq_decide.2 ⟨fun h=>⟨fun h2=>absurd h2 (by omega),fun h2=>absurd h2 h6,fun _=>h⟩,fun h=>h.2.2 (by omega)⟩
 clear hz h3 h4 h6
 by_cases hs:xs=⟨#[]⟩
 ·obtain rfl:z=true:=by rw[← hzz];exact decide_eq_true hs
  subst hs;clear hzz;obtain⟨c0,c1,c2,c3,-⟩:=HKc.out.cj;rw[HW.out,HG.out]at c0 c1 c2 c3;go_enter Tryz.func137,Tryz.ntmps137;go_wp2_with fail;go_ret;exact⟨Dt.ret_bool (by first | rfl | assumption),by have h:=HKc.out.below;rw[HW.out]at h;exact h⟩
 ·obtain rfl:z=false:=by rw[← hzz];exact decide_eq_false hs
  have f8:(xs.toList==(ByteArray.mk #[]).toList)=false:=bytes_ne hs
  have e0:(ByteArray.mk #[]).toList=[]:=by rw[ByteArray.toList_eq]
  have f10:=f8;rw[e0]at f10;clear e0 hs hzz;obtain⟨c0,c1,c2,c3,-⟩:=HKc.out.cj;rw[HW.out,HG.out]at c0 c1 c2 c3;go_enter Tryz.func137,Tryz.ntmps137;go_wp2_with fail;go_ret;exact⟨Dt.ret_bool (by first | rfl | assumption),by have h:=HKc.out.below;rw[HW.out]at h;exact h⟩
theorem onum_any (xA:Option Addr) (xn xc:Nat) (xa:Int) (xs:ByteArray) (xv:Int) (w:World) (z:Bool) (hz:decide (numP xa xv)=z) :
  Calls Tryz.prog 138 #[.agg #[.slice xA xn xc,.int .i64 xa,.string xs,.int .i64 xv]] w fun e w'=>e = .returned (.bool z)∧Below w.heap.size w w':=by
 obtain⟨g,hg⟩:∃ g,g=w.heap.size:=⟨_,rfl⟩;obtain⟨W,hW⟩:∃ W,W=w.alloc (.cells #[.slice xA xn xc,.int .i64 xa,.string xs,.int .i64 xv] 40):=⟨_,rfl⟩
 have hb0:Below w.heap.size w W:=by rw[hW];exact Dt.box_below _ _ _
 have HKc:Hid (Kept [(⟨g,0,none⟩,.slice xA xn xc),(⟨g,1,none⟩,.int .i64 xa),(⟨g,2,none⟩,.string xs),(⟨g,3,none⟩,.int .i64 xv)] w W):=by
  have h0:=Kept.nil_of hb0
  refine (((h0.cons_of ?_).cons_of ?_).cons_of ?_).cons_of ?_ <;> (rw[hW,hg];go_simp)
 have HG:=Lib.hid hg;have HW:=Lib.hid hW;clear hg hW;clear hb0
 by_cases h5:xa=5
 ·subst h5
  by_cases h1 : -1099511627776≤xv
  ·have g1:decide (-1099511627776≤xv)=true:=decide_eq_true h1
   have g2:decide (xv≤1099511627776)=z:=by
    rw[← hz];exact decide_eq_decide.2 ⟨fun h=>⟨fun _=>⟨h1,h⟩,fun h=>absurd rfl h⟩,fun h=>(h.1 rfl).2⟩
   clear hz h1;obtain⟨c0,c1,c2,c3,-⟩:=HKc.out.cj;rw[HW.out,HG.out]at c0 c1 c2 c3;go_enter Tryz.func138,Tryz.ntmps138;go_wp2_with fail;go_ret;exact⟨Dt.ret_bool (by first | rfl | assumption),by have h:=HKc.out.below;rw[HW.out]at h;exact h⟩
  ·have g1:decide (-1099511627776≤xv)=false:=decide_eq_false h1
   have g2:false=z:=by
    rw[← hz];exact (decide_eq_false fun h=>h1 (h.1 rfl).1).symm
   subst g2;clear hz h1;obtain⟨c0,c1,c2,c3,-⟩:=HKc.out.cj;rw[HW.out,HG.out]at c0 c1 c2 c3;go_enter Tryz.func138,Tryz.ntmps138;go_wp2_with fail;go_ret;exact⟨Dt.ret_bool (by first | rfl | assumption),by have h:=HKc.out.below;rw[HW.out]at h;exact h⟩
 have f5:(xa==5)=false:=by simpa using h5
 have g2:(xv==0)=z:=by
  rw[← hz,Bool.eq_iff_iff,beq_iff_eq,decide_eq_true_iff];exact⟨fun h=>⟨fun h2=>absurd h2 h5,fun _=>h⟩,fun h=>h.2 h5⟩
 clear hz h5;obtain⟨c0,c1,c2,c3,-⟩:=HKc.out.cj;rw[HW.out,HG.out]at c0 c1 c2 c3;go_enter Tryz.func138,Tryz.ntmps138;go_wp2_with fail;go_ret;exact⟨Dt.ret_bool (by first | rfl | assumption),by have h:=HKc.out.below;rw[HW.out]at h;exact h⟩
theorem ocheck_any (xp:List ByteArray) (xa:Int) (xs:ByteArray) (xv:Int) (xA:Option Addr) (xn xc:Nat) (w:World) (z:Int) (hz:opE ⟨xp,xa,xs,xv⟩=z) (hn:xn≤1000000) (hrx:Rd w w.heap.size 1 xA xn xc (strs xp)) :
  Calls Tryz.prog 106 #[.agg #[.slice xA xn xc,.int .i64 xa,.string xs,.int .i64 xv]] w fun e w'=>e = .returned (.int .i64 z)∧Below w.heap.size w w':=by
 obtain⟨g,hg⟩:∃ g,g=w.heap.size:=⟨_,rfl⟩;obtain⟨W,hW⟩:∃ W,W=w.alloc (.cells #[.slice xA xn xc,.int .i64 xa,.string xs,.int .i64 xv] 40):=⟨_,rfl⟩
 have hb0:Below w.heap.size w W:=by rw[hW];exact Dt.box_below _ _ _
 have HKc:Hid (Kept [(⟨g,0,none⟩,.slice xA xn xc),(⟨g,1,none⟩,.int .i64 xa),(⟨g,2,none⟩,.string xs),(⟨g,3,none⟩,.int .i64 xv)] w W):=by
  have h0:=Kept.nil_of hb0
  refine (((h0.cons_of ?_).cons_of ?_).cons_of ?_).cons_of ?_ <;> (rw[hW,hg];go_simp)
 have HG:=Lib.hid hg;have HW:=Lib.hid hW;clear hg hW;have HRX:=Lib.hid (hrx.later hb0);have HLX:=Lib.hid (rd_len1 hrx);have HZ:=Lib.hid hz;clear hrx hz hb0;obtain⟨y,hy⟩:∃ y,pathE xp=y:=⟨_,rfl⟩;have HY:=Lib.hid hy;clear hy;obtain⟨c0,c1,c2,c3,-⟩:=HKc.out.cj;go_enter Tryz.func106,Tryz.ntmps106;go_wp2_with fail;rw[← HG.out,← HW.out];refine (ocheckpath_any xp xn xA xc W y HY.out hn HRX.out).mono ?_;rintro e v1 ⟨rfl,he1⟩
 have hb9:Below W.heap.size W v1:=by rw[he1];exact Below.refl _ _
 clear he1;have HKc:=Lib.hid (HKc.out.later hb9);have HRX:=Lib.hid (HRX.out.later hb9);clear hb9;clear c0 c1 c2 c3
 by_cases hy0:y=0
 ·subst hy0
  have HPO:Hid (PathOk xp):=pathE_zero.1 HY.out
  obtain⟨m,rfl⟩:∃ m,xn=m+1:=by
   have h2:=HPO.out.some;have h3:=HLX.out
   cases xp with
   | nil=>exact absurd rfl h2
   | cons a l=>exact⟨l.length,by rw[← h3];rfl⟩
  have hm3:m≤2:=by have h1:=HPO.out.few;have h3:=HLX.out;omega
  obtain⟨kd,hkd⟩:∃ kd,kd=lastK xp:=⟨_,rfl⟩;obtain⟨ok,hok⟩:∃ ok,decide (actOk xa kd)=ok:=⟨_,rfl⟩;have HOK:=Lib.hid hok;have HKD:=Lib.hid hkd;clear hkd hok
  have hkl:m<xp.length:=by rw[HLX.out];omega
  obtain⟨b,o,rfl,hgl,hc⟩:=rd_text HRX.out (by omega);have q0:=hc m hkl;have hlk:lastK xp=kindK xp[m]:=lastK_get hkl HLX.out;obtain⟨kk,hkk⟩:∃ x,x=xp[m]:=⟨_,rfl⟩;rw[← hkk]at q0 hlk;have HLK:=Lib.hid hlk;have HKc:=Lib.hid (HKc.out.cons_of q0);clear hc hkk hlk q0 hkl
  have fw:IntKind.i64.wrap (m:Int)=(m:Int):=by rw[IntKind.wrap_i64];omega
  have fx:IntKind.i64.wrap ((m:Int)+1-1)=(m:Int):=by rw[IntKind.wrap_i64];omega
  have fy:(m:Int)<(m:Int)+1:=by omega
  obtain⟨c0,c1,c2,c3,c4,-⟩:=HKc.out.cj;go_wp2_with fail;clear c0 c1 c2 c3 c4
  cases ok with
  | false=>
   refine wp_region_held_drew (S:=Conj _) (by kernel_rfl) HKc.out.drew.cj (fun hHeld=>?_);obtain⟨v11,hv11⟩:∃ v,v=v1.drew:=⟨_,rfl⟩
   have hb9:Below v1.heap.size v1 v11:=by rw[hv11];exact (Below.refl _ _).drew
   have HKc:=Lib.hid (HKc.out.later hb9);have HRX:=Lib.hid (HRX.out.later hb9);clear hb9;rw[← hv11]at hHeld ⊢;clear hv11;refine Tk 0 10 ?_;refine Tk 1 11 ?_;refine Tk 2 12 ?_;refine Tk 3 13 ?_;refine Tk 4 14 ?_;refine Tk 5 15 ?_;refine Tk 6 16 ?_;refine Tk 7 17 ?_;refine Tk 8 18 ?_;refine Tk 9 19 ?_;refine Tc 10 (fun K hK=>?_);go_simp;(go_at_call 136;refine (okind_any kk v11).mono ?_);rw[← HLK.out,← HKD.out];rintro e v12 ⟨rfl,he1⟩
   have hb9:Below v11.heap.size v11 v12:=by rw[he1];exact Below.refl _ _
   clear he1;have HKc:=Lib.hid (HKc.out.later hb9);have HRX:=Lib.hid (HRX.out.later hb9);clear hb9;clear hHeld;refine Th hK ?_ (fun hHeld=>?_)
   ·exact HKc.out.cj
   clear hK K;refine Tc 11 (fun K hK=>?_);go_simp;(go_at_call 135;refine (oact_any xa kd v12 false HOK.out).mono ?_);rintro e v13 ⟨rfl,hb9⟩;have HKc:=Lib.hid (HKc.out.later hb9);have HRX:=Lib.hid (HRX.out.later hb9);clear hb9;clear hHeld;refine Th hK ?_ (fun hHeld=>?_)
   ·exact HKc.out.cj
   clear hK K;refine Tk 12 22 ?_;refine wpAnyH_done (by kernel_rfl) ?_ _;clear hHeld
   obtain rfl:z=6:=by
    rw[← HZ.out];exact opE_kind HY.out (by rw[← HKD.out];exact of_decide_eq_false HOK.out)
   go_wp2_with fail;go_ret;exact⟨rfl,HKc.out.below⟩
  | true=>
   refine wp_region_held_drew (S:=Conj _) (by kernel_rfl) HKc.out.drew.cj (fun hHeld=>?_);obtain⟨v11,hv11⟩:∃ v,v=v1.drew:=⟨_,rfl⟩
   have hb9:Below v1.heap.size v1 v11:=by rw[hv11];exact (Below.refl _ _).drew
   have HKc:=Lib.hid (HKc.out.later hb9);have HRX:=Lib.hid (HRX.out.later hb9);clear hb9;rw[← hv11]at hHeld ⊢;clear hv11;refine Tk 0 10 ?_;refine Tk 1 11 ?_;refine Tk 2 12 ?_;refine Tk 3 13 ?_;refine Tk 4 14 ?_;refine Tk 5 15 ?_;refine Tk 6 16 ?_;refine Tk 7 17 ?_;refine Tk 8 18 ?_;refine Tk 9 19 ?_;refine Tc 10 (fun K hK=>?_);go_simp;(go_at_call 136;refine (okind_any kk v11).mono ?_);rw[← HLK.out,← HKD.out];rintro e v12 ⟨rfl,he1⟩
   have hb9:Below v11.heap.size v11 v12:=by rw[he1];exact Below.refl _ _
   clear he1;have HKc:=Lib.hid (HKc.out.later hb9);have HRX:=Lib.hid (HRX.out.later hb9);clear hb9;clear hHeld;refine Th hK ?_ (fun hHeld=>?_)
   ·exact HKc.out.cj
   clear hK K;refine Tc 11 (fun K hK=>?_);go_simp;(go_at_call 135;refine (oact_any xa kd v12 true HOK.out).mono ?_);rintro e v13 ⟨rfl,hb9⟩;have HKc:=Lib.hid (HKc.out.later hb9);have HRX:=Lib.hid (HRX.out.later hb9);clear hb9;clear hHeld;refine Th hK ?_ (fun hHeld=>?_)
   ·exact HKc.out.cj
   clear hK K;refine Tk 12 22 ?_;refine wpAnyH_done (by kernel_rfl) ?_ _;clear hHeld
   have HAC:Hid (actOk xa (lastK xp)):=by rw[← HKD.out];exact of_decide_eq_true HOK.out
   have HIF:=Lib.hid (opOk_iff (v:=xv) (s:=xs) HPO.out HAC.out);obtain⟨zt,hzt⟩:∃ x,decide (textP xa xs)=x:=⟨_,rfl⟩;obtain⟨zn,hzn⟩:∃ x,decide (numP xa xv)=x:=⟨_,rfl⟩;have HZT:=Lib.hid hzt;have HZN:=Lib.hid hzn;clear hzt hzn;obtain⟨c0,c1,c2,c3,c4,-⟩:=HKc.out.cj;go_wp2_with fail;refine (otext_any (some ⟨b,o,none⟩) (m+1) xc xa xs xv v13 zt HZT.out).mono ?_;rintro e v14 ⟨rfl,hb9⟩;have HKc:=Lib.hid (HKc.out.later hb9);have HRX:=Lib.hid (HRX.out.later hb9);clear hb9;clear c0 c1 c2 c3 c4
   cases zt with
   | false=>
    obtain rfl:z=1:=by
     rw[← HZ.out];exact opE_no HY.out HAC.out fun h=>of_decide_eq_false HZT.out ⟨(HIF.out.1 h).1,(HIF.out.1 h).2.1,(HIF.out.1 h).2.2.1⟩
    go_wp2_with fail;go_ret;exact⟨rfl,HKc.out.below⟩
   | true=>
    obtain⟨c0,c1,c2,c3,c4,-⟩:=HKc.out.cj;go_wp2_with fail;refine (onum_any (some ⟨b,o,none⟩) (m+1) xc xa xs xv v14 zn HZN.out).mono ?_;rintro e v15 ⟨rfl,hb9⟩;have HKc:=Lib.hid (HKc.out.later hb9);have HRX:=Lib.hid (HRX.out.later hb9);clear hb9;clear c0 c1 c2 c3 c4
    cases zn with
    | false=>
     obtain rfl:z=1:=by
      rw[← HZ.out];exact opE_no HY.out HAC.out fun h=>of_decide_eq_false HZN.out (HIF.out.1 h).2.2.2
     go_wp2_with fail;go_ret;exact⟨rfl,HKc.out.below⟩
    | true=>
     obtain rfl:z=0:=by
      rw[← HZ.out];have h1:=of_decide_eq_true HZT.out;have h2:=of_decide_eq_true HZN.out;exact opE_ok (HIF.out.2 ⟨h1.1,h1.2.1,h1.2.2,h2⟩)
     go_wp2_with fail;go_ret;exact⟨rfl,HKc.out.below⟩
 ·obtain rfl:z=y:=by
   rw[← HZ.out,← HY.out];exact opE_path (by rw[HY.out];exact hy0)
  have f0:(z != 0)=true:=by simpa using hy0
  go_wp2_with fail;go_ret;exact⟨rfl,HKc.out.below⟩
theorem oright_any (xp:List ByteArray) (xa:Int) (xs:ByteArray) (xv:Int) (xA:Option Addr) (xn xc:Nat) (w:World) (z:Bool) (hz:decide (opE ⟨xp,xa,xs,xv⟩=0)=z) (hn:xn≤1000000) (hrx:Rd w w.heap.size 1 xA xn xc (strs xp)) :
  Calls Tryz.prog 72 #[.agg #[.slice xA xn xc,.int .i64 xa,.string xs,.int .i64 xv]] w fun e w'=>e = .returned (.bool z)∧Below w.heap.size w w':=by
 obtain⟨y,hy⟩:∃ y,opE ⟨xp,xa,xs,xv⟩=y:=⟨_,rfl⟩
 have f0:(y==0)=z:=by rw[← hz,hy,Bool.eq_iff_iff,beq_iff_eq,decide_eq_true_iff]
 obtain⟨g,hg⟩:∃ g,g=w.heap.size:=⟨_,rfl⟩;obtain⟨W,hW⟩:∃ W,W=w.alloc (.cells #[.slice xA xn xc,.int .i64 xa,.string xs,.int .i64 xv] 40):=⟨_,rfl⟩
 have hb0:Below w.heap.size w W:=by rw[hW];exact Dt.box_below _ _ _
 have HKc:Hid (Kept [(⟨g,0,none⟩,.slice xA xn xc),(⟨g,1,none⟩,.int .i64 xa),(⟨g,2,none⟩,.string xs),(⟨g,3,none⟩,.int .i64 xv)] w W):=by
  have h0:=Kept.nil_of hb0
  refine (((h0.cons_of ?_).cons_of ?_).cons_of ?_).cons_of ?_ <;> (rw[hW,hg];go_simp)
 have HG:=Lib.hid hg;have HW:=Lib.hid hW;clear hg hW;have H:=Lib.hid (ocheck_any xp xa xs xv xA xn xc W y hy hn (hrx.later hb0));clear hz hy hrx hb0;obtain⟨c0,c1,c2,c3,-⟩:=HKc.out.cj;go_enter Tryz.func72,Tryz.ntmps72;go_wp2_with fail;rw[← HG.out,← HW.out];refine H.out.mono ?_;rintro e w' ⟨rfl,hb9⟩;have HKc:=Lib.hid (HKc.out.later hb9);clear hb9 c0 c1 c2 c3;go_wp2_with fail;go_ret;exact⟨Dt.ret_bool (by first | exact f0 | rfl),HKc.out.below⟩
end Cs
end Go.Proofs.YtcbpgemiffmieaaGreat
namespace Go.Proofs.YtcbpgemiffmieaaGreat
open Go.ChangeShapes Go.WideShapes Go.ChangeAt Go.RowKit
namespace Pk
open Tr Cx Cs Sp Rw Codec
def opB (o:OpM):List UInt8:=listB txtB o.path++numB o.act++txtB o.s++numB o.n
def OpI (o:OpM):Prop:=o.path.length≤3∧(∀ k∈o.path,k.size≤30)∧I64 o.act∧o.s.size≤30∧I64 o.n
theorem op_zero:OpI ⟨[],0,⟨#[]⟩,0⟩:=⟨by simp,by simp,⟨by decide,by decide⟩,by decide,⟨by decide,by decide⟩⟩
theorem op_le {o:OpM} (h:OpI o):(opB o).length≤800000:=by
 obtain⟨h1,h2,h3,h4,h5⟩:=h;unfold opB listB;have g1:=num_le (v:=o.path.length) ⟨by omega,by omega⟩
 have g2:=flat_le (f:=txtB) (m:=40) (l:=o.path) fun k hk=>by have:=h2 k hk;have:=txt_le (s:=k) (by omega);omega
 have g3:=num_le h3;have g4:=txt_le (s:=o.s) (by omega);have g5:=num_le h5;simp only[List.length_append];omega
theorem op_ok {o:OpM} (h:OpOk o):OpI o:=by
 have hp:=h.path;have ha:=h.act;unfold actOk at ha;refine⟨hp.few,fun k hk=>(hp.each k hk).1,⟨by omega,by omega⟩,?_,?_⟩
 ·by_cases h1:o.act=3∨o.act=4
  ·exact (h.key h1).2
  ·by_cases h2:o.act=6
   ·exact h.text h2
   ·rw[h.none_ (by omega)];exact Nat.zero_le _
 ·by_cases h1:o.act=5
  ·have:=h.num h1
   exact⟨by omega,by omega⟩
  ·rw[h.zero h1];exact⟨by omega,by omega⟩
set_option maxRecDepth 100000 in
set_option maxHeartbeats 4000000 in
theorem opP_any (xp:List ByteArray) (xa:Int) (xs:ByteArray) (xv:Int) (xA:Option Addr) (xn xc:Nat) (w:World) (z:Int) (hz:opE ⟨xp,xa,xs,xv⟩=z) (u:OpM) (hu:u=if z=0 then⟨xp,xa,xs,xv⟩else⟨[],0,⟨#[]⟩,0⟩) (hn:xn≤1000) (hrx:Rd w w.heap.size 1 xA xn xc (strs xp)) :
  Calls Tryz.prog 45 #[.agg #[.slice xA xn xc,.int .i64 xa,.string xs,.int .i64 xv]] w (NewRow 5 1 (u8s (opB u)) (opB u).length w):=by
 obtain⟨g,hg⟩:∃ g,g=w.heap.size:=⟨_,rfl⟩;obtain⟨W,hW⟩:∃ W,W=w.alloc (.cells #[.slice xA xn xc,.int .i64 xa,.string xs,.int .i64 xv] 40):=⟨_,rfl⟩
 have hb0:Below w.heap.size w W:=by rw[hW];exact Dt.box_below _ _ _
 have HKc:Hid (Kept [(⟨g,0,none⟩,.slice xA xn xc),(⟨g,1,none⟩,.int .i64 xa),(⟨g,2,none⟩,.string xs),(⟨g,3,none⟩,.int .i64 xv)] w W):=by
  have h0:=Kept.nil_of hb0
  refine (((h0.cons_of ?_).cons_of ?_).cons_of ?_).cons_of ?_ <;> (rw[hW,hg];go_simp)
 have HF:Hid (Free g W):=⟨by rw[hW,hg];simp,fun j=>by rw[hW,hg];go_simp⟩
 have hgw:w.heap.size≤g:=by omega
 have HRX:=Lib.hid hrx;have HC:=Lib.hid (Cs.refop_any xp xa xs xv xA xn xc W z hz hn (hrx.later hb0));have HZ:=Lib.hid hz;have HU:=Lib.hid hu;have HG:=Lib.hid hg;have HW:=Lib.hid hW;obtain⟨k0,k1,k2,k3,-⟩:=HKc.out.cj;clear hrx hz hg hW hb0 hu;go_enter Tryz.func45,Tryz.ntmps45;go_wp2_with fail;rw[← HG.out,← HW.out];refine HC.out.mono ?_;rintro e w1 ⟨rfl,hb1⟩;have HF1:=Lib.hid (HF.out.later hb1);have HK1:=Lib.hid (HKc.out.later hb1);obtain⟨k0,k1,k2,k3,-⟩:=HK1.out.cj;clear hb1 HC HKc HF
 by_cases hz0:z=0
 ·subst hz0
  have hu2:(⟨xp,xa,xs,xv⟩:OpM)=u:=by have h:=HU.out;simp at h;exact h.symm
  subst hu2;obtain⟨wq,hwq⟩:∃ W,W=w1:=⟨_,rfl⟩;rw[← hwq]at HK1 k0 k1 k2 k3 ⊢;have HKq:=Lib.hid HK1.out;have HI:=Lib.hid (op_ok (opE_zero.1 HZ.out));clear hwq HK1 HF1;have hI1:=HI.out.1;have hI2:=HI.out.2.1;have hI3:=HI.out.2.2.1;have hI4:=HI.out.2.2.2.1;have hI5:=HI.out.2.2.2.2;dsimp only at hI1 hI2 hI3 hI4 hI5;have HLN:=Lib.hid (rd_len1 HRX.out)
  have hn3:xn≤3:=by have:=HLN.out;omega
  have HTB:Hid (opB ⟨xp,xa,xs,xv⟩=numB xn++(xp:List ByteArray).flatMap txtB++numB xa++txtB xs++numB xv):=by
   unfold Hid opB listB;dsimp only;rw[HLN.out]
   try simp
  have hbig:=op_le HI.out;have hlen:=congrArg List.length HTB.out;simp only[List.length_append]at hlen;have k0:=HKq.out.c0;obtain⟨p2,hp2⟩:∃ p,p=wq.heap.size:=⟨_,rfl⟩;obtain⟨W2,hW2⟩:∃ W,W=wq.alloc (.cells #[.int .i64 (xn)] 2):=⟨_,rfl⟩;have HC2:=Lib.hid (nums_lit [xn] 1 wq W2 p2 #[.int .i64 (xn)] 2 hW2 hp2 rfl (by omega) (fun v hv=>by simp at hv;subst hv;first | assumption | exact⟨by omega,by omega⟩) rfl);have HP2:=Lib.hid hp2;have HW2:=Lib.hid hW2;clear hp2 hW2;go_wp2_with fail
  try rw[← HWQ.out]
  rw[← HW2.out]
  try rw[← HP2.out]
  try rw[← HQS.out,← HP2.out]
  refine HC2.out.mono ?_;rintro e w3 ⟨A3,m3,c3,rfl,hm3,ho3,hb3⟩
  have HO3:Hid (OutR w [(⟨g,0,none⟩,.slice xA xn xc),(⟨g,1,none⟩,.int .i64 xa),(⟨g,2,none⟩,.string xs),(⟨g,3,none⟩,.int .i64 xv)] w3 (.slice A3 m3 c3) (numB xn)):=by
   have h1:=(ho3.out.mono HKq.out.below.size).row;have h2:=hm3.out;rw[num_one_eq]at h1 h2;refine⟨by rw[← h2]at h1;rw[← h2];exact h1,HKq.out.later hb3.out,fun x hx e=>?_⟩;have h3:=(ho3.out.row.lt _ e).1;have h4:=(HKq.out.2 x hx).1;omega
  have HB3:=Lib.hid hb3.out;clear hm3 ho3 hb3 HC2;have k0:=HO3.out.kept.c0;go_wp2_with fail
  go_loopw [3,17] (fun v q wr=>∃ (k:Nat) (v1:Value),q = .int .i64 k∧v1=v∧k≤xn∧Hid (OutR w [(⟨g,0,none⟩,.slice xA xn xc),(⟨g,1,none⟩,.int .i64 xa),(⟨g,2,none⟩,.string xs),(⟨g,3,none⟩,.int .i64 xv)] wr v1 (numB xn++((xp:List ByteArray).take k).flatMap txtB))) (fun _ q _=>xn-(intOf q).toNat)
  case atStart=>
   refine⟨0,_,rfl,rfl,Nat.zero_le _,?_⟩;unfold Hid
   simpa using HO3.out
  case round=>
   obtain⟨k,v,rfl,rfl,hk,HO⟩:=hrel;have HRW:=Lib.hid (HO.out.rdfirst HRX.out);have k0:=HO.out.kept.c0
   by_cases hlt:k<xn
   ·have hkl:k<(xp:List ByteArray).length:=by rw[HLN.out];exact hlt
    obtain⟨b,o,hA,hbq,hc⟩:=rd_text HRW.out (show 0<xn by omega);have c0:=hc k hkl;have hsuc:=flat_take txtB hkl;have hss:=hI2 _ (List.getElem_mem hkl)
    have hle2:(numB xn++((xp:List ByteArray).take (k+1)).flatMap txtB).length≤800000:=by
     have h1:=flat_take_le txtB (xp:List ByteArray) (k+1);simp only[List.length_append];omega
    obtain⟨x,hx⟩:∃ x,x=(xp:List ByteArray)[k]:=⟨_,rfl⟩;rw[← hx]at c0 hsuc hss;obtain⟨acc,hacc⟩:∃ acc,acc=numB xn++((xp:List ByteArray).take k).flatMap txtB:=⟨_,rfl⟩;obtain⟨acc2,hacc2⟩:∃ acc2,acc2=numB xn++((xp:List ByteArray).take (k+1)).flatMap txtB:=⟨_,rfl⟩;rw[← hacc]at HO;rw[← hacc2]at hle2
    have HACC:Hid (acc++txtB x=acc2):=by
     unfold Hid;rw[hacc2,hacc,hsuc,List.append_assoc]
    have HACC2:=Lib.hid hacc2
    have hss:x.size≤900000:=by omega
    clear hc hsuc hx hacc hacc2 hlen HTB hbig;subst hA;go_wp2_with fail;refine (text_lit x wr hss).mono ?_;rintro e wa5 ⟨Aa5,ma5,ca5,rfl,hma5,hoa5,hba5⟩;obtain⟨v5,w5,Hrun5,HO5⟩:=HO.out.put (acc2:=acc2) hba5 hma5 hoa5 hle2 HACC;clear hma5 hoa5 hba5;go_wp2_with (at_builtin;refine Lib.wpList_append_run _ rfl _ _ _ _ rfl _ _ rfl rfl _ _ Hrun5.out ?_);go_roundw
    case rel=>
     refine⟨k+1,v5,by go_num,rfl,by omega,?_⟩;have h1:=HO5.out;rw[HACC2.out]at h1;exact h1
    case measure=>simp[intOf];omega
   ·have hke:k=xn:=by omega
    have HO:Hid (OutR w [(⟨g,0,none⟩,.slice xA xn xc),(⟨g,1,none⟩,.int .i64 xa),(⟨g,2,none⟩,.string xs),(⟨g,3,none⟩,.int .i64 xv)] wr v (numB xn++(xp:List ByteArray).flatMap txtB)):=by
     have h1:=HO.out
     have h2:(xp:List ByteArray).take k=xp:=by rw[hke,← HLN.out,List.take_length]
     rw[h2]at h1;exact h1
    have k1:=HO.out.kept.c1;obtain⟨p6,hp6⟩:∃ p,p=wr.heap.size:=⟨_,rfl⟩;obtain⟨W6,hW6⟩:∃ W,W=wr.alloc (.cells #[.int .i64 (xa)] 2):=⟨_,rfl⟩;have HC6:=Lib.hid (nums_lit [xa] 1 wr W6 p6 #[.int .i64 (xa)] 2 hW6 hp6 rfl (by omega) (fun v hv=>by simp at hv;subst hv;first | assumption | exact⟨by omega,by omega⟩) rfl);have HP6:=Lib.hid hp6;have HW6:=Lib.hid hW6;clear hp6 hW6;go_wp2_with fail;rw[← HW6.out]
    try rw[← HP6.out]
    refine HC6.out.mono ?_;rintro e wa7 ⟨Aa7,ma7,ca7,rfl,hma7,hoa7,hba7⟩;obtain⟨v7,w7,Hrun7,HO7⟩:=HO.out.put (acc2:=numB xn++(xp:List ByteArray).flatMap txtB++[xa].flatMap numB) hba7 hma7 hoa7 (by rw[num_one_eq];simp only[List.length_append];omega) rfl;clear hma7 hoa7 hba7;have k2:=HO7.out.kept.c2;go_wp2_with (at_builtin;refine Lib.wpList_append_run _ rfl _ _ _ _ rfl _ _ rfl rfl _ _ Hrun7.out ?_);refine (text_lit xs w7 (by omega)).mono ?_;rintro e wa8 ⟨Aa8,ma8,ca8,rfl,hma8,hoa8,hba8⟩;obtain⟨v8,w8,Hrun8,HO8⟩:=HO7.out.put (acc2:=numB xn++(xp:List ByteArray).flatMap txtB++[xa].flatMap numB++txtB xs) hba8 hma8 hoa8 (by rw[num_one_eq];simp only[List.length_append];omega) rfl;clear hma8 hoa8 hba8;have k3:=HO8.out.kept.c3;obtain⟨p9,hp9⟩:∃ p,p=w8.heap.size:=⟨_,rfl⟩;obtain⟨W9,hW9⟩:∃ W,W=w8.alloc (.cells #[.int .i64 (xv)] 2):=⟨_,rfl⟩
    have HC9:=Lib.hid (nums_lit [xv] 1 w8 W9 p9 #[.int .i64 (xv)] 2 hW9 hp9 rfl (by omega) (fun v hv=>by simp at hv;subst hv;first | assumption | exact⟨by omega,by omega⟩) rfl);have HP9:=Lib.hid hp9;have HW9:=Lib.hid hW9;clear hp9 hW9;go_wp2_with (at_builtin;refine Lib.wpList_append_run _ rfl _ _ _ _ rfl _ _ rfl rfl _ _ Hrun8.out ?_);rw[← HW9.out]
    try rw[← HP9.out]
    refine HC9.out.mono ?_;rintro e wa10 ⟨Aa10,ma10,ca10,rfl,hma10,hoa10,hba10⟩;obtain⟨v10,w10,Hrun10,HO10⟩:=HO8.out.put (acc2:=opB ⟨xp,xa,xs,xv⟩) hba10 hma10 hoa10 (by omega) (by unfold Hid;rw[HTB.out];simp only[num_one_eq]);clear hma10 hoa10 hba10;obtain⟨A5,c5,rfl,ho5⟩:=Own.of_row HO10.out.row (u8s_one _);have HO5:=Lib.hid ho5;have HB5:=Lib.hid HO10.out.kept.below;clear ho5 hlen hbig;go_wp2_with (at_builtin;refine Lib.wpList_append_run _ rfl _ _ _ _ rfl _ _ rfl rfl _ _ Hrun10.out ?_);go_ret;exact⟨A5,c5,rfl,HO5.out,HB5.out⟩
 ·have fz:(z==0)=false:=by simpa using hz0
  have hu2:u=⟨[],0,⟨#[]⟩,0⟩:=by have h:=HU.out;simpa [hz0] using h
  subst hu2;have f0:=HF1.out.2 0;have f1:=HF1.out.2 1;have f2:=HF1.out.2 2;have f3:=HF1.out.2 3;obtain⟨wq,hwq⟩:∃ W,W=(((w1.setCell ⟨g,0,none⟩ (.slice none 0 0)).setCell ⟨g,1,none⟩ (.int .i64 0)).setCell ⟨g,2,none⟩ (.string ⟨#[]⟩)).setCell ⟨g,3,none⟩ (.int .i64 0):=⟨_,rfl⟩
  have HKq:Hid (Kept [(⟨g,0,none⟩,.slice none 0 0),(⟨g,1,none⟩,.int .i64 0),(⟨g,2,none⟩,.string ⟨#[]⟩),(⟨g,3,none⟩,.int .i64 0)] w wq):=by
   have h0:=(Kept.nil_of HK1.out.below).st3 (g:=g) hgw (by simp) (.slice none 0 0) (.int .i64 0) (.string ⟨#[]⟩);have h1:=h0.set (a:=⟨g,3,none⟩) hgw (by simp) (.int .i64 0);rw[← hwq]at h1
   refine (((h1.cons_of ?_).cons_of ?_).cons_of ?_).cons_of ?_ <;> (rw[hwq];go_simp)
  have HWQ:=Lib.hid hwq;have HRX:Hid (Rd w w.heap.size 1 none 0 0 (strs [])):=Rd.nil _;have HI:=Lib.hid op_zero
  have HQS:Hid (wq.heap.size=w1.heap.size):=by unfold Hid;rw[hwq];simp[World.setCell]
  clear hwq;have hI1:=HI.out.1;have hI2:=HI.out.2.1;have hI3:=HI.out.2.2.1;have hI4:=HI.out.2.2.2.1;have hI5:=HI.out.2.2.2.2;dsimp only at hI1 hI2 hI3 hI4 hI5;have HLN:=Lib.hid (rd_len1 HRX.out)
  have hn3:0≤3:=by have:=HLN.out;omega
  have HTB:Hid (opB ⟨[],0,⟨#[]⟩,0⟩=numB 0++([]:List ByteArray).flatMap txtB++numB 0++txtB ⟨#[]⟩++numB 0):=by
   unfold Hid opB listB;dsimp only;rw[HLN.out]
   try simp
  have hbig:=op_le HI.out;have hlen:=congrArg List.length HTB.out;simp only[List.length_append]at hlen;have k0:=HKq.out.c0;obtain⟨p2,hp2⟩:∃ p,p=wq.heap.size:=⟨_,rfl⟩;obtain⟨W2,hW2⟩:∃ W,W=wq.alloc (.cells #[.int .i64 (0)] 2):=⟨_,rfl⟩;have HC2:=Lib.hid (nums_lit [0] 1 wq W2 p2 #[.int .i64 (0)] 2 hW2 hp2 rfl (by omega) (fun v hv=>by simp at hv;subst hv;first | assumption | exact⟨by omega,by omega⟩) rfl);have HP2:=Lib.hid hp2;have HW2:=Lib.hid hW2;clear hp2 hW2;go_wp2_with fail
  try rw[← HWQ.out]
  rw[← HW2.out]
  try rw[← HP2.out]
  try rw[← HQS.out,← HP2.out]
  refine HC2.out.mono ?_;rintro e w3 ⟨A3,m3,c3,rfl,hm3,ho3,hb3⟩
  have HO3:Hid (OutR w [(⟨g,0,none⟩,.slice none 0 0),(⟨g,1,none⟩,.int .i64 0),(⟨g,2,none⟩,.string ⟨#[]⟩),(⟨g,3,none⟩,.int .i64 0)] w3 (.slice A3 m3 c3) (numB 0)):=by
   have h1:=(ho3.out.mono HKq.out.below.size).row;have h2:=hm3.out;rw[num_one_eq]at h1 h2;refine⟨by rw[← h2]at h1;rw[← h2];exact h1,HKq.out.later hb3.out,fun x hx e=>?_⟩;have h3:=(ho3.out.row.lt _ e).1;have h4:=(HKq.out.2 x hx).1;omega
  have HB3:=Lib.hid hb3.out;clear hm3 ho3 hb3 HC2;have k0:=HO3.out.kept.c0;go_wp2_with fail
  go_loopw [3,17] (fun v q wr=>∃ (k:Nat) (v1:Value),q = .int .i64 k∧v1=v∧k≤0∧Hid (OutR w [(⟨g,0,none⟩,.slice none 0 0),(⟨g,1,none⟩,.int .i64 0),(⟨g,2,none⟩,.string ⟨#[]⟩),(⟨g,3,none⟩,.int .i64 0)] wr v1 (numB 0++(([]:List ByteArray).take k).flatMap txtB))) (fun _ q _=>0-(intOf q).toNat)
  case atStart=>
   refine⟨0,_,rfl,rfl,Nat.zero_le _,?_⟩;unfold Hid
   simpa using HO3.out
  case round=>
   obtain⟨k,v,rfl,rfl,hk,HO⟩:=hrel;have HRW:=Lib.hid (HO.out.rdfirst HRX.out);have k0:=HO.out.kept.c0
   by_cases hlt:k<0
   ·exact absurd hlt (by omega)
   ·have hke:k=0:=by omega
    have HO:Hid (OutR w [(⟨g,0,none⟩,.slice none 0 0),(⟨g,1,none⟩,.int .i64 0),(⟨g,2,none⟩,.string ⟨#[]⟩),(⟨g,3,none⟩,.int .i64 0)] wr v (numB 0++([]:List ByteArray).flatMap txtB)):=by
     have h1:=HO.out
     have h2:([]:List ByteArray).take k=[]:=by rw[hke,← HLN.out,List.take_length]
     rw[h2]at h1;exact h1
    have k1:=HO.out.kept.c1;obtain⟨p6,hp6⟩:∃ p,p=wr.heap.size:=⟨_,rfl⟩;obtain⟨W6,hW6⟩:∃ W,W=wr.alloc (.cells #[.int .i64 (0)] 2):=⟨_,rfl⟩;have HC6:=Lib.hid (nums_lit [0] 1 wr W6 p6 #[.int .i64 (0)] 2 hW6 hp6 rfl (by omega) (fun v hv=>by simp at hv;subst hv;first | assumption | exact⟨by omega,by omega⟩) rfl);have HP6:=Lib.hid hp6;have HW6:=Lib.hid hW6;clear hp6 hW6;go_wp2_with fail;rw[← HW6.out]
    try rw[← HP6.out]
    refine HC6.out.mono ?_;rintro e wa7 ⟨Aa7,ma7,ca7,rfl,hma7,hoa7,hba7⟩;obtain⟨v7,w7,Hrun7,HO7⟩:=HO.out.put (acc2:=numB 0++([]:List ByteArray).flatMap txtB++[0].flatMap numB) hba7 hma7 hoa7 (by rw[num_one_eq];simp only[List.length_append];omega) rfl;clear hma7 hoa7 hba7;have k2:=HO7.out.kept.c2;go_wp2_with (at_builtin;refine Lib.wpList_append_run _ rfl _ _ _ _ rfl _ _ rfl rfl _ _ Hrun7.out ?_);refine (text_lit ⟨#[]⟩ w7 (by omega)).mono ?_;rintro e wa8 ⟨Aa8,ma8,ca8,rfl,hma8,hoa8,hba8⟩;obtain⟨v8,w8,Hrun8,HO8⟩:=HO7.out.put (acc2:=numB 0++([]:List ByteArray).flatMap txtB++[0].flatMap numB++txtB ⟨#[]⟩) hba8 hma8 hoa8 (by rw[num_one_eq];simp only[List.length_append];omega) rfl;clear hma8 hoa8 hba8;have k3:=HO8.out.kept.c3;obtain⟨p9,hp9⟩:∃ p,p=w8.heap.size:=⟨_,rfl⟩;obtain⟨W9,hW9⟩:∃ W,W=w8.alloc (.cells #[.int .i64 (0)] 2):=⟨_,rfl⟩
    have HC9:=Lib.hid (nums_lit [0] 1 w8 W9 p9 #[.int .i64 (0)] 2 hW9 hp9 rfl (by omega) (fun v hv=>by simp at hv;subst hv;first | assumption | exact⟨by omega,by omega⟩) rfl);have HP9:=Lib.hid hp9;have HW9:=Lib.hid hW9;clear hp9 hW9;go_wp2_with (at_builtin;refine Lib.wpList_append_run _ rfl _ _ _ _ rfl _ _ rfl rfl _ _ Hrun8.out ?_);rw[← HW9.out]
    try rw[← HP9.out]
    refine HC9.out.mono ?_;rintro e wa10 ⟨Aa10,ma10,ca10,rfl,hma10,hoa10,hba10⟩;obtain⟨v10,w10,Hrun10,HO10⟩:=HO8.out.put (acc2:=opB ⟨[],0,⟨#[]⟩,0⟩) hba10 hma10 hoa10 (by omega) (by unfold Hid;rw[HTB.out];simp only[num_one_eq]);clear hma10 hoa10 hba10;obtain⟨A5,c5,rfl,ho5⟩:=Own.of_row HO10.out.row (u8s_one _);have HO5:=Lib.hid ho5;have HB5:=Lib.hid HO10.out.kept.below;clear ho5 hlen hbig;go_wp2_with (at_builtin;refine Lib.wpList_append_run _ rfl _ _ _ _ rfl _ _ rfl rfl _ _ Hrun10.out ?_);go_ret;exact⟨A5,c5,rfl,HO5.out,HB5.out⟩
end Pk
end Go.Proofs.YtcbpgemiffmieaaGreat
set_option maxRecDepth 100000
set_option maxHeartbeats 4000000
namespace Go.Proofs.YtcbpgemiffmieaaGreat
open Go.ChangeShapes Go.WideShapes Go.ChangeAt Go.RowKit
namespace Pk
open Tr Cx Cs Sp Rw Codec
def CapK (bs:List UInt8):Prop:=(∀ t x,RightT 5 t→bs=treeB t++x→nodes t≤10000)∧(∀ t c x,RightT 5 t→RightC c→bs=treeB t++(ctxB c++x)→c.length≤10000)
theorem ctxB_pos (c:List S3):1≤(ctxB c).length:=listB_pos c
theorem cap_tree {bs r:List UInt8} {t:T} {b:Bool} (h:CapK bs) (h1:Got treeB (RightT 5) none_ bs t r b):nodes t≤10000:=by
 cases hb:b with
 | true=>rw[h1.2.2 hb];simp[none_,nodes_mk]
 | false=>
  rcases h1.1 with ⟨_,e⟩ | ⟨e,_⟩
  ·exact h.1 t r (h1.2.1 hb) e
  ·rw[hb]at e;cases e
theorem cap_ctx {bs r r2:List UInt8} {t:T} {c:List S3} {b b2:Bool} (h:CapK bs) (h1:Got treeB (RightT 5) none_ bs t r b) (h2:Got ctxB RightC [] r c r2 b2):c.length≤10000:=by
 cases hb2:b2 with
 | true=>rw[h2.2.2 hb2];simp
 | false=>
  rcases h2.1 with ⟨_,e2⟩ | ⟨e2,_⟩
  ·rcases h1.1 with ⟨hb,e⟩ | ⟨hb,e,_⟩
   ·exact h.2 t c r2 (h1.2.1 hb) (h2.2.1 hb2) (by rw[e,e2])
   ·rw[e]at e2
    have h3:=congrArg List.length e2;have h4:=ctxB_pos c;rw[List.length_append,List.length_nil]at h3;omega
  ·rw[hb2]at e2;cases e2
theorem cap_few {bs:List UInt8} (h:bs.length≤10000):CapK bs:=by
 refine⟨fun t x _ e=>?_,fun t c x _ _ e=>?_⟩
 ·have h1:=nodes_le t
  have h2:=congrArg List.length e;rw[List.length_append]at h2;omega
 ·have h2:=congrArg List.length e
  have h3:=list_len (f:=spB) (l:=c) fun s _=>sp_pos s;unfold ctxB listB at h2;simp only[List.length_append]at h2;omega
theorem cap_known {bs x:List UInt8} {k:K} (_hk:RK k) (h1:nodes k.1≤10000) (h2:k.2.length≤10000) (e:bs=causB k++x):CapK bs:=by
 refine⟨fun t y _ e2=>?_,fun t c y _ _ e2=>?_⟩
 ·rw[e2]at e
  unfold causB at e;rw[List.append_assoc]at e;rw[(pre_tree _ _ _ _ e).1];exact h1
 ·rw[e2]at e
  unfold causB at e;rw[List.append_assoc]at e;rw[(pre_ctx _ _ _ _ (pre_tree _ _ _ _ e).2).1];exact h2
theorem getcaus_any {w:World} {l:List (Addr×Value)} {F:List Nat} {a:Nat} {bs:List UInt8} {bad:Bool} (hbs:bs.length≤100000) (hcap:CapK bs) (h:InC w l F a bs bad) :
  Calls Tryz.prog 28 #[.pointer (some ⟨a,0,none⟩)] w fun e w'=>∃ (u:K) (se sk sc:SV) (r:List UInt8) (b:Bool),e = .returned (.agg #[.slice se.A se.n se.c,.slice sk.A sk.n sk.c,.slice sc.A sc.n sc.c])∧Hid (RdO w' (fun z=>w.heap.size≤z) u.1 se sk)∧Hid (u.2.length=sc.n)∧Hid (Own w' w.heap.size 100 3 sc.A sc.n sc.c (spsC u.2))∧Hid (Gt a w l F r b w')∧Hid (Got causB RK (none_,[]) bs u r b):=by
 have HO:=Lib.hid h;have HG0:=Lib.hid (Gt.refl h);have haw:=h.at_.lt;have HCAP:=Lib.hid hcap;clear hcap;clear h;obtain⟨p,hp⟩:∃ p,p=w.heap.size:=⟨_,rfl⟩;obtain⟨W,hW⟩:∃ W,W=w.alloc (.cells #[.slice none 0 0,.slice none 0 0,.slice none 0 0] 37):=⟨_,rfl⟩
 have HG1:Hid (Gt a w ([(⟨p,0,none⟩,.slice none 0 0),(⟨p,1,none⟩,.slice none 0 0),(⟨p,2,none⟩,.slice none 0 0)]++l) ([p]++F) bs bad W):=by
  refine HG0.out.add (by rw[hW];exact Dt.box_below _ _ _) ?_ ?_
  ·intro x hx
   simp only[List.mem_cons,List.not_mem_nil,or_false]at hx
   rcases hx with rfl | rfl | rfl <;> exact⟨by dsimp only;omega,by rw[hW];simp <;> omega,by rw[hW,hp];go_simp⟩
  ·intro q hq
   simp only[List.mem_cons,List.not_mem_nil,or_false]at hq;subst hq;exact⟨by omega,by rw[hW,hp];simp,fun j=>by rw[hW,hp];go_simp⟩
 have HPW:Hid (w.heap.size≤p):=by unfold Hid;omega
 have hap:a<p:=by omega
 have hszW:W.heap.size=p+1:=by rw[hW,hp];simp
 have HSZ:=Lib.hid hszW;have HW:=Lib.hid hW;have Hp:=Lib.hid hp;clear hp hW HG0 hszW;go_enter Tryz.func28,Tryz.ntmps28;go_wp2_with fail
 try rw[← HW.out]
 try rw[← Hp.out]
 refine (gettree_any hbs HG1.out.1).mono ?_;rintro e w1 ⟨t,⟨Ae,ne,ce⟩,⟨Ak,nk,ck⟩,r1,b1,rfl,HRT,HG,H1⟩;have HG2:=Lib.hid (HG1.out.trans HG.out);have HT1:Hid (RdO w1 (fun z=>p+1≤z) t ⟨Ae,ne,ce⟩ ⟨Ak,nk,ck⟩):=RdO.mono (fun z hz _=>by have:=HSZ.out;omega) _ HRT.out
 have hr1:r1.length≤100000:=by have:=H1.out.le;omega
 have hs1:p+1≤w1.heap.size:=HG2.out.f0.1;clear HG HG1 HRT;go_wp2_with fail;refine (getctx_any hr1 HG2.out.1).mono ?_;rintro e w2 ⟨cs,na,ca,Ca,r,b,rfl,hlc,hoc,HG3,H2⟩;have HG:=Lib.hid (HG2.out.trans HG3.out);have HT:Hid (RdO w2 (fun z=>p+1≤z) t ⟨Ae,ne,ce⟩ ⟨Ak,nk,ck⟩):=rdO_gb HT1.out HG3.out.2 (fun z hz=>by omega);have HC2:Hid (Own w2 (p+1) 100 3 Ca na ca (spsC cs)):=hoc.out.mono hs1;have HN1:=Lib.hid (cap_tree HCAP.out H1.out);have HN2:=Lib.hid (cap_ctx HCAP.out H1.out H2.out);clear HG2 HG3 hoc HT1 hs1;obtain⟨s,hs⟩:∃ s,s=w2.heap.size:=⟨_,rfl⟩;obtain⟨WS,hWS⟩:∃ W,W=w2.alloc (.cells #[.slice Ae ne ce,.slice Ak nk ck,.slice Ca na ca] 37):=⟨_,rfl⟩
 have hbS:Below w2.heap.size w2 WS:=by rw[hWS];exact Dt.box_below _ _ _
 have HGS:Hid (Gt a w ([(⟨s,0,none⟩,.slice Ae ne ce),(⟨s,1,none⟩,.slice Ak nk ck),(⟨s,2,none⟩,.slice Ca na ca)]++([(⟨p,0,none⟩,.slice none 0 0),(⟨p,1,none⟩,.slice none 0 0),(⟨p,2,none⟩,.slice none 0 0)]++l)) ([]++([p]++F)) r b WS):=by
  refine HG.out.add hbS ?_ (by simp);intro x hx;simp only[List.mem_cons,List.not_mem_nil,or_false]at hx
  rcases hx with rfl | rfl | rfl <;> exact⟨by dsimp only;omega,by rw[hWS];simp <;> omega,by rw[hWS,hs];go_simp⟩
 have hps:p<s:=by have h1:=HG.out.f0.1;omega
 have hsp:¬s=p:=by omega
 have hpsn:¬p=s:=by omega
 have HT9:Hid (RdO WS (fun z=>p+1≤z) t ⟨Ae,ne,ce⟩ ⟨Ak,nk,ck⟩):=HT.out.later hbS;clear HT;have HT:=Lib.hid HT9.out;clear HT9;have HC29:Hid (Own WS (p+1) 100 3 Ca na ca (spsC cs)):=own_later HC2.out hbS;clear HC2;have HC2:=Lib.hid HC29.out;clear HC29;have HWS:=Lib.hid hWS;have Hs:=Lib.hid hs;clear hs hWS hbS HG;obtain⟨z,hz⟩:∃ z,rightKB (t,cs)=z:=⟨_,rfl⟩;have HC:=Lib.hid (Cs.rightK_any t cs Ae Ak Ca ne nk ce ck na ca WS HN1.out hlc.out (by have:=HN2.out;have:=hlc.out;omega) (RdO.rd _ HT.out) HC2.out.rd);rw[hz]at HC;have HZ:=Lib.hid hz;clear hz;go_wp2_with fail;rw[← HWS.out]
 try rw[← Hs.out]
 refine (HC.out).mono ?_;rintro e v1 ⟨rfl,hb1⟩;have HG:=Lib.hid (HGS.out.later hb1);have HT9:Hid (RdO v1 (fun z=>p+1≤z) t ⟨Ae,ne,ce⟩ ⟨Ak,nk,ck⟩):=HT.out.later hb1;clear HT;have HT:=Lib.hid HT9.out;clear HT9;have HC29:Hid (Own v1 (p+1) 100 3 Ca na ca (spsC cs)):=own_later HC2.out hb1;clear HC2;have HC2:=Lib.hid HC29.out;clear HC29;clear HGS hb1;go_wp2_with fail;refine (gstands_any z HG.out.1).mono ?_;rintro e v2 ⟨rfl,HG2⟩;have HG3:=Lib.hid (HG.out.trans HG2.out);have HT9:Hid (RdO v2 (fun z=>p+1≤z) t ⟨Ae,ne,ce⟩ ⟨Ak,nk,ck⟩):=rdO_gb HT.out HG2.out.2 (fun z hz=>by omega);clear HT;have HT:=Lib.hid HT9.out;clear HT9;have HC29:Hid (Own v2 (p+1) 100 3 Ca na ca (spsC cs)):=own_gb HC2.out HG2.out.2 (by omega);clear HC2;have HC2:=Lib.hid HC29.out;clear HC29;obtain⟨ok,hok⟩:∃ k,(z && !b)=k:=⟨_,rfl⟩
 have hone:One causB (fun k=>RightT 5 k.1∧RightC k.2) bs (t,cs) r b:=H1.out.1.pair pre_tree ctxB_pos H2.out.1
 have HS:∀ u,u=(if ok then (t,cs)else (none_,[]))→Hid (Got causB RK (none_,[]) bs u (if ok then r else []) (!ok)):=fun u hu=>Got.of pre_caus hone (fun y hy=>⟨hy.tree,hy.ctx⟩) (by rw[← HZ.out];exact rightKB_iff) ok hok hu
 rw[hok]at HG3 ⊢;clear HG HG2 hok
 cases ok with
 | true=>
  have k0:=HG3.out.cell (p:=⟨p,0,none⟩) (v:=.slice none 0 0) (by simp);have k1:=HG3.out.cell (p:=⟨p,1,none⟩) (v:=.slice none 0 0) (by simp);have k2:=HG3.out.cell (p:=⟨p,2,none⟩) (v:=.slice none 0 0) (by simp);have j0:=HG3.out.cell (p:=⟨s,0,none⟩) (v:=.slice Ae ne ce) (by simp);have j1:=HG3.out.cell (p:=⟨s,1,none⟩) (v:=.slice Ak nk ck) (by simp);have j2:=HG3.out.cell (p:=⟨s,2,none⟩) (v:=.slice Ca na ca) (by simp);have f0:=(HG3.out.1.free p (by simp)).1.2 0;have f1:=(HG3.out.1.free p (by simp)).1.2 1;have f2:=(HG3.out.1.free p (by simp)).1.2 2;obtain⟨W9,hW9⟩:∃ W,W=(((v2.setCell ⟨p,0,none⟩ (.slice Ae ne ce)).setCell ⟨p,1,none⟩ (.slice Ak nk ck)).setCell ⟨p,2,none⟩ (.slice Ca na ca)):=⟨_,rfl⟩
  have HB9:Hid (Below w.heap.size v2 W9):=by unfold Hid;rw[hW9];exact ((((Below.refl w.heap.size v2).setCell (p:=⟨p,0,none⟩) HPW.out _).setCell (p:=⟨p,1,none⟩) HPW.out _).setCell (p:=⟨p,2,none⟩) HPW.out _)
  have HG9:Hid (Gt a w l F r false W9):=(HG3.out.sub (l2:=l) (F2:=F) (fun x hx=>List.mem_append_right _ (List.mem_append_right _ hx)) (fun x hx=>List.mem_append_right _ (List.mem_append_right _ hx))).low HO.out HB9.out
  have HTW:Hid (RdO W9 (fun z=>w.heap.size≤z) t ⟨Ae,ne,ce⟩ ⟨Ak,nk,ck⟩):=by
   refine RdO.mono (fun z hz _=>by have:=HPW.out;omega) _ (RdO.keep (ok:=fun z=>p+1≤z) (by rw[hW9];simp[World.setCell]) (fun z hz _=>?_) _ HT.out);rw[hW9];exact (((Below.heap_setCell _ ⟨p,2,none⟩ _ z (by dsimp only;omega)).trans (Below.heap_setCell _ ⟨p,1,none⟩ _ z (by dsimp only;omega))).trans (Below.heap_setCell _ ⟨p,0,none⟩ _ z (by dsimp only;omega)))
  have HC2W:Hid (Own W9 w.heap.size 100 3 Ca na ca (spsC cs)):=by
   unfold Hid;rw[hW9];exact ((((HC2.out.set_below (a:=⟨p,0,none⟩) (by dsimp only;omega) _).set_below (a:=⟨p,1,none⟩) (by dsimp only;omega) _).set_below (a:=⟨p,2,none⟩) (by dsimp only;omega) _)).mono (by have:=HPW.out;omega)
  have l0:W9.cell? ⟨p,0,none⟩=some (.slice Ae ne ce):=by rw[hW9];go_simp
  have l1:W9.cell? ⟨p,1,none⟩=some (.slice Ak nk ck):=by rw[hW9];go_simp
  have l2:W9.cell? ⟨p,2,none⟩=some (.slice Ca na ca):=by rw[hW9];go_simp
  have HW9:=Lib.hid hW9;clear hW9;have HS1:=HS _ rfl;clear HS;go_wp2;rw[← HW9.out];exact bodyPost_ret (v:=.agg #[.slice Ae ne ce,.slice Ak nk ck,.slice Ca na ca]) (by simp[results,Tryz.results28,go_sem,l0,l1,l2]) rfl ⟨(t,cs),⟨Ae,ne,ce⟩,⟨Ak,nk,ck⟩,⟨Ca,na,ca⟩,r,false,rfl,HTW,hlc,HC2W,HG9,HS1⟩
 | false=>
  have k0:=HG3.out.cell (p:=⟨p,0,none⟩) (v:=.slice none 0 0) (by simp);have k1:=HG3.out.cell (p:=⟨p,1,none⟩) (v:=.slice none 0 0) (by simp);have k2:=HG3.out.cell (p:=⟨p,2,none⟩) (v:=.slice none 0 0) (by simp);have j0:=HG3.out.cell (p:=⟨s,0,none⟩) (v:=.slice Ae ne ce) (by simp);have j1:=HG3.out.cell (p:=⟨s,1,none⟩) (v:=.slice Ak nk ck) (by simp);have j2:=HG3.out.cell (p:=⟨s,2,none⟩) (v:=.slice Ca na ca) (by simp);have f0:=(HG3.out.1.free p (by simp)).1.2 0;have f1:=(HG3.out.1.free p (by simp)).1.2 1;have f2:=(HG3.out.1.free p (by simp)).1.2 2;obtain⟨W9,hW9⟩:∃ W,W=(((v2.setCell ⟨p,0,none⟩ (.slice none 0 0)).setCell ⟨p,1,none⟩ (.slice none 0 0)).setCell ⟨p,2,none⟩ (.slice none 0 0)):=⟨_,rfl⟩
  have HB9:Hid (Below w.heap.size v2 W9):=by unfold Hid;rw[hW9];exact ((((Below.refl w.heap.size v2).setCell (p:=⟨p,0,none⟩) HPW.out _).setCell (p:=⟨p,1,none⟩) HPW.out _).setCell (p:=⟨p,2,none⟩) HPW.out _)
  have HG9:Hid (Gt a w l F [] true W9):=(HG3.out.sub (l2:=l) (F2:=F) (fun x hx=>List.mem_append_right _ (List.mem_append_right _ hx)) (fun x hx=>List.mem_append_right _ (List.mem_append_right _ hx))).low HO.out HB9.out
  have l0:W9.cell? ⟨p,0,none⟩=some (.slice none 0 0):=by rw[hW9];go_simp
  have l1:W9.cell? ⟨p,1,none⟩=some (.slice none 0 0):=by rw[hW9];go_simp
  have l2:W9.cell? ⟨p,2,none⟩=some (.slice none 0 0):=by rw[hW9];go_simp
  have HW9:=Lib.hid hW9;clear hW9;have HS1:=HS _ rfl;clear HS;go_wp2;rw[← HW9.out];exact bodyPost_ret (v:=.agg #[.slice none 0 0,.slice none 0 0,.slice none 0 0]) (by simp[results,Tryz.results28,go_sem,l0,l1,l2]) rfl ⟨(none_,[]),⟨none,0,0⟩,⟨none,0,0⟩,⟨none,0,0⟩,[],true,rfl,RdO.none _ _ _ _ _ _,rfl,⟨World.ownsRow_nil _ _ _ _,by simp[spsC]⟩,HG9,HS1⟩
def OpR (o:OpM):Prop:=(∀ k∈o.path,TxtR 30 k)∧NumR 7 o.act∧TxtR 30 o.s∧NumR 1099511627776 o.n
theorem ok_opR {o:OpM} (h:OpOk o):OpR o:=by
 obtain⟨_,h2,_,h4,_⟩:=op_ok h;have ha:=h.act;unfold actOk at ha;refine⟨fun k hk=>h2 k hk,⟨by omega,by omega⟩,h4,?_⟩
 by_cases h1:o.act=5
 ·have:=h.num h1
  exact⟨by omega,by omega⟩
 ·rw[h.zero h1];exact⟨by omega,by omega⟩
theorem pre_opB (o:OpM):Pre opB o:=fun u x y e=>by
 have e0:opB o++x=listB txtB o.path++(numB o.act++(txtB o.s++(numB o.n++x))):=by unfold opB;simp only[List.append_assoc]
 have e1:opB u++y=listB txtB u.path++(numB u.act++(txtB u.s++(numB u.n++y))):=by unfold opB;simp only[List.append_assoc]
 rw[e0,e1]at e;obtain⟨g1,e⟩:=pre_list (f:=txtB) (fun a _=>pre_txt a) _ _ _ e;obtain⟨g2,e⟩:=numB_prefix e;obtain⟨g3,e⟩:=pre_txt _ _ _ _ e;obtain⟨g4,e9⟩:=numB_prefix e;clear e e0 e1
 cases o;cases u
 dsimp only at g1 g2 g3 g4;subst g1;subst g2;subst g3;subst g4;exact⟨rfl,e9⟩
theorem op_one {bs r1 r2 r3 r4:List UInt8} {ps:List ByteArray} {x1 x3:Int} {s:ByteArray} {b1 b2 b3 b4:Bool} (k0:One (listB txtB) (fun l=>∀ y∈l,TxtR 30 y) bs ps r1 b1) (k1:One numB (NumR 7) r1 x1 r2 b2) (k2:One txtB (TxtR 30) r2 s r3 b3) (k3:One numB (NumR 1099511627776) r3 x3 r4 b4):One opB OpR bs ⟨ps,x1,s,x3⟩ r4 b4:=
 have pl:∀ l:List ByteArray,Pre (listB txtB) l:=fun _l=>pre_list fun a _=>pre_txt a
 (((k0.pair pl numB_pos k1).pair (pre_pair pl pre_num) txtB_pos k2).pair (pre_pair (pre_pair pl pre_num) pre_txt) numB_pos k3).conv (e:=fun p=>(⟨p.1.1.1,p.1.1.2,p.1.2,p.2⟩:OpM)) (fun _y=>rfl) (fun y hy=>⟨(((y.path,y.act),y.s),y.n),rfl,⟨⟨hy.1,hy.2.1⟩,hy.2.2.1⟩,hy.2.2.2⟩)
theorem getop_any {w:World} {l:List (Addr×Value)} {F:List Nat} {a:Nat} {bs:List UInt8} {bad:Bool} (hbs:bs.length≤100000) (h:InC w l F a bs bad) :
  Calls Tryz.prog 30 #[.pointer (some ⟨a,0,none⟩)] w fun e w'=>∃ (u:OpM) (A:Option Addr) (n c:Nat) (r:List UInt8) (b:Bool),e = .returned (.agg #[.slice A n c,.int .i64 u.act,.string u.s,.int .i64 u.n])∧Hid (Own w' w.heap.size 9 1 A n c (Tr.strs u.path))∧Hid (Gt a w l F r b w')∧Hid (Got opB OpOk ⟨[],0,⟨#[]⟩,0⟩ bs u r b):=by
 have HO:=Lib.hid h;have HG0:=Lib.hid (Gt.refl h);have haw:=h.at_.lt;clear h;obtain⟨p,hp⟩:∃ p,p=w.heap.size:=⟨_,rfl⟩;obtain⟨W,hW⟩:∃ W,W=w.alloc (.cells #[.slice none 0 0,.int .i64 0,.string ⟨#[]⟩,.int .i64 0] 40):=⟨_,rfl⟩
 have HG1:Hid (Gt a w ([(⟨p,0,none⟩,.slice none 0 0),(⟨p,1,none⟩,.int .i64 0),(⟨p,2,none⟩,.string ⟨#[]⟩),(⟨p,3,none⟩,.int .i64 0)]++l) ([p]++F) bs bad W):=by
  refine HG0.out.add (by rw[hW];exact Dt.box_below _ _ _) ?_ ?_
  ·intro x hx
   simp only[List.mem_cons,List.not_mem_nil,or_false]at hx
   rcases hx with rfl | rfl | rfl | rfl <;> exact⟨by dsimp only;omega,by rw[hW];simp <;> omega,by rw[hW,hp];go_simp⟩
  ·intro q hq
   simp only[List.mem_cons,List.not_mem_nil,or_false]at hq;subst hq;exact⟨by omega,by rw[hW,hp];simp,fun j=>by rw[hW,hp];go_simp⟩
 have HPW:Hid (w.heap.size≤p):=by unfold Hid;omega
 have hap:a<p:=by omega
 have hszW:W.heap.size=p+1:=by rw[hW,hp];simp
 have HSZ:=Lib.hid hszW;have HW:=Lib.hid hW;have Hp:=Lib.hid hp;clear hp hW HG0 hszW;go_enter Tryz.func30,Tryz.ntmps30;go_wp2_with fail
 try rw[← HW.out]
 try rw[← Hp.out]
 refine (gallSt_any hbs HG1.out.1).mono ?_;rintro e w1 ⟨ps,n,c,A,r1,b1,rfl,hlp,hop,HG,H1,hnb⟩;have HG2:=Lib.hid (HG1.out.trans HG.out);have HP1:Hid (Own w1 (p+1) 9 1 A n c (Tr.strs ps)):=hop.out.mono (by have:=HSZ.out;omega);clear HG HG1 hop;go_wp2_with fail;refine (gnum_any 7 (by omega) (by omega) HG2.out.1).mono ?_;rintro e w2 ⟨x1,r2,b2,rfl,HG,H2⟩;have HG3:=Lib.hid (HG2.out.trans HG.out);have HP2:=Lib.hid (own_gb HP1.out HG.out.2 (by omega));clear HG HG2 HP1;go_wp2_with fail;refine (gtxt_any HG3.out.1).mono ?_;rintro e w3 ⟨tx,r3,b3,rfl,HG,H3⟩;have HG4:=Lib.hid (HG3.out.trans HG.out);have HP3:=Lib.hid (own_gb HP2.out HG.out.2 (by omega));clear HG HG3 HP2;go_wp2_with fail;refine (gnum_any 1099511627776 (by omega) (by omega) HG4.out.1).mono ?_;rintro e w4 ⟨x3,r,b,rfl,HGX,H4⟩;have HG:=Lib.hid (HG4.out.trans HGX.out)
 have HP4:=Lib.hid (own_gb HP3.out HGX.out.2 (by omega));have HONE:=Lib.hid (op_one H1.out H2.out H3.out H4.out)
 have hn1:n≤1000000:=by have:=hnb.out;omega
 clear HGX HG4 HP3;obtain⟨s,hs⟩:∃ s,s=w4.heap.size:=⟨_,rfl⟩;obtain⟨WS,hWS⟩:∃ W,W=w4.alloc (.cells #[.slice A n c,.int .i64 x1,.string tx,.int .i64 x3] 40):=⟨_,rfl⟩
 have hbS:Below w4.heap.size w4 WS:=by rw[hWS];exact Dt.box_below _ _ _
 have HGS:Hid (Gt a w ([(⟨s,0,none⟩,.slice A n c),(⟨s,1,none⟩,.int .i64 x1),(⟨s,2,none⟩,.string tx),(⟨s,3,none⟩,.int .i64 x3)]++([(⟨p,0,none⟩,.slice none 0 0),(⟨p,1,none⟩,.int .i64 0),(⟨p,2,none⟩,.string ⟨#[]⟩),(⟨p,3,none⟩,.int .i64 0)]++l)) ([]++([p]++F)) r b WS):=by
  refine HG.out.add hbS ?_ (by simp);intro x hx;simp only[List.mem_cons,List.not_mem_nil,or_false]at hx
  rcases hx with rfl | rfl | rfl | rfl <;> exact⟨by dsimp only;omega,by rw[hWS];simp <;> omega,by rw[hWS,hs];go_simp⟩
 have hps:p<s:=by have h1:=HG.out.f0.1;omega
 have hsp:¬s=p:=by omega
 have hpsn:¬p=s:=by omega
 have HP49:Hid (Own WS (p+1) 9 1 A n c (Tr.strs ps)):=own_later HP4.out hbS;clear HP4;have HP4:=Lib.hid HP49.out;clear HP49;have HWS:=Lib.hid hWS;have Hs:=Lib.hid hs;clear hs hWS hbS HG;obtain⟨z,hz⟩:∃ z,decide (opE ⟨ps,x1,tx,x3⟩=0)=z:=⟨_,rfl⟩;have HC:=Lib.hid (Cs.oright_any ps x1 tx x3 A n c WS z hz hn1 HP4.out.rd);have HZ:=Lib.hid hz;clear hz;go_wp2_with fail;rw[← HWS.out]
 try rw[← Hs.out]
 refine (HC.out).mono ?_;rintro e v1 ⟨rfl,hb1⟩;have HG:=Lib.hid (HGS.out.later hb1);have HP49:Hid (Own v1 (p+1) 9 1 A n c (Tr.strs ps)):=own_later HP4.out hb1;clear HP4;have HP4:=Lib.hid HP49.out;clear HP49;clear HGS hb1;go_wp2_with fail;refine (gstands_any z HG.out.1).mono ?_;rintro e v2 ⟨rfl,HG2⟩;have HG3:=Lib.hid (HG.out.trans HG2.out);have HP49:Hid (Own v2 (p+1) 9 1 A n c (Tr.strs ps)):=own_gb HP4.out HG2.out.2 (by omega);clear HP4;have HP4:=Lib.hid HP49.out;clear HP49;obtain⟨ok,hok⟩:∃ k,(z && !b)=k:=⟨_,rfl⟩
 have HS:∀ u,u=(if ok then (⟨ps,x1,tx,x3⟩:OpM)else⟨[],0,⟨#[]⟩,0⟩)→Hid (Got opB OpOk ⟨[],0,⟨#[]⟩,0⟩ bs u (if ok then r else []) (!ok)):=fun u hu=>Got.of pre_opB HONE.out (fun y hy=>ok_opR hy) (by rw[← HZ.out,decide_eq_true_iff];exact opE_zero) ok hok hu
 rw[hok]at HG3 ⊢;clear HG HG2 hok
 cases ok with
 | true=>
  have k0:=HG3.out.cell (p:=⟨p,0,none⟩) (v:=.slice none 0 0) (by simp);have k1:=HG3.out.cell (p:=⟨p,1,none⟩) (v:=.int .i64 0) (by simp);have k2:=HG3.out.cell (p:=⟨p,2,none⟩) (v:=.string ⟨#[]⟩) (by simp);have k3:=HG3.out.cell (p:=⟨p,3,none⟩) (v:=.int .i64 0) (by simp);have j0:=HG3.out.cell (p:=⟨s,0,none⟩) (v:=.slice A n c) (by simp);have j1:=HG3.out.cell (p:=⟨s,1,none⟩) (v:=.int .i64 x1) (by simp);have j2:=HG3.out.cell (p:=⟨s,2,none⟩) (v:=.string tx) (by simp);have j3:=HG3.out.cell (p:=⟨s,3,none⟩) (v:=.int .i64 x3) (by simp);have f0:=(HG3.out.1.free p (by simp)).1.2 0;have f1:=(HG3.out.1.free p (by simp)).1.2 1;have f2:=(HG3.out.1.free p (by simp)).1.2 2;have f3:=(HG3.out.1.free p (by simp)).1.2 3;obtain⟨W9,hW9⟩:∃ W,W=((((v2.setCell ⟨p,0,none⟩ (.slice A n c)).setCell ⟨p,1,none⟩ (.int .i64 x1)).setCell ⟨p,2,none⟩ (.string tx)).setCell ⟨p,3,none⟩ (.int .i64 x3)):=⟨_,rfl⟩
  have HB9:Hid (Below w.heap.size v2 W9):=by unfold Hid;rw[hW9];exact (((((Below.refl w.heap.size v2).setCell (p:=⟨p,0,none⟩) HPW.out _).setCell (p:=⟨p,1,none⟩) HPW.out _).setCell (p:=⟨p,2,none⟩) HPW.out _).setCell (p:=⟨p,3,none⟩) HPW.out _)
  have HG9:Hid (Gt a w l F r false W9):=(HG3.out.sub (l2:=l) (F2:=F) (fun x hx=>List.mem_append_right _ (List.mem_append_right _ hx)) (fun x hx=>List.mem_append_right _ (List.mem_append_right _ hx))).low HO.out HB9.out
  have HP4W:Hid (Own W9 w.heap.size 9 1 A n c (Tr.strs ps)):=by
   unfold Hid;rw[hW9];exact (((((HP4.out.set_below (a:=⟨p,0,none⟩) (by dsimp only;omega) _).set_below (a:=⟨p,1,none⟩) (by dsimp only;omega) _).set_below (a:=⟨p,2,none⟩) (by dsimp only;omega) _).set_below (a:=⟨p,3,none⟩) (by dsimp only;omega) _)).mono (by have:=HPW.out;omega)
  have l0:W9.cell? ⟨p,0,none⟩=some (.slice A n c):=by rw[hW9];go_simp
  have l1:W9.cell? ⟨p,1,none⟩=some (.int .i64 x1):=by rw[hW9];go_simp
  have l2:W9.cell? ⟨p,2,none⟩=some (.string tx):=by rw[hW9];go_simp
  have l3:W9.cell? ⟨p,3,none⟩=some (.int .i64 x3):=by rw[hW9];go_simp
  have HW9:=Lib.hid hW9;clear hW9;have HS1:=HS _ rfl;clear HS;go_wp2;rw[← HW9.out];exact bodyPost_ret (v:=.agg #[.slice A n c,.int .i64 x1,.string tx,.int .i64 x3]) (by simp[results,Tryz.results30,go_sem,l0,l1,l2,l3]) rfl ⟨⟨ps,x1,tx,x3⟩,A,n,c,r,false,rfl,HP4W,HG9,HS1⟩
 | false=>
  have k0:=HG3.out.cell (p:=⟨p,0,none⟩) (v:=.slice none 0 0) (by simp);have k1:=HG3.out.cell (p:=⟨p,1,none⟩) (v:=.int .i64 0) (by simp);have k2:=HG3.out.cell (p:=⟨p,2,none⟩) (v:=.string ⟨#[]⟩) (by simp);have k3:=HG3.out.cell (p:=⟨p,3,none⟩) (v:=.int .i64 0) (by simp);have j0:=HG3.out.cell (p:=⟨s,0,none⟩) (v:=.slice A n c) (by simp);have j1:=HG3.out.cell (p:=⟨s,1,none⟩) (v:=.int .i64 x1) (by simp);have j2:=HG3.out.cell (p:=⟨s,2,none⟩) (v:=.string tx) (by simp);have j3:=HG3.out.cell (p:=⟨s,3,none⟩) (v:=.int .i64 x3) (by simp);have f0:=(HG3.out.1.free p (by simp)).1.2 0;have f1:=(HG3.out.1.free p (by simp)).1.2 1;have f2:=(HG3.out.1.free p (by simp)).1.2 2;have f3:=(HG3.out.1.free p (by simp)).1.2 3;obtain⟨W9,hW9⟩:∃ W,W=((((v2.setCell ⟨p,0,none⟩ (.slice none 0 0)).setCell ⟨p,1,none⟩ (.int .i64 0)).setCell ⟨p,2,none⟩ (.string ⟨#[]⟩)).setCell ⟨p,3,none⟩ (.int .i64 0)):=⟨_,rfl⟩
  have HB9:Hid (Below w.heap.size v2 W9):=by unfold Hid;rw[hW9];exact (((((Below.refl w.heap.size v2).setCell (p:=⟨p,0,none⟩) HPW.out _).setCell (p:=⟨p,1,none⟩) HPW.out _).setCell (p:=⟨p,2,none⟩) HPW.out _).setCell (p:=⟨p,3,none⟩) HPW.out _)
  have HG9:Hid (Gt a w l F [] true W9):=(HG3.out.sub (l2:=l) (F2:=F) (fun x hx=>List.mem_append_right _ (List.mem_append_right _ hx)) (fun x hx=>List.mem_append_right _ (List.mem_append_right _ hx))).low HO.out HB9.out
  have l0:W9.cell? ⟨p,0,none⟩=some (.slice none 0 0):=by rw[hW9];go_simp
  have l1:W9.cell? ⟨p,1,none⟩=some (.int .i64 0):=by rw[hW9];go_simp
  have l2:W9.cell? ⟨p,2,none⟩=some (.string ⟨#[]⟩):=by rw[hW9];go_simp
  have l3:W9.cell? ⟨p,3,none⟩=some (.int .i64 0):=by rw[hW9];go_simp
  have HW9:=Lib.hid hW9;clear hW9;have HS1:=HS _ rfl;clear HS;go_wp2;rw[← HW9.out];exact bodyPost_ret (v:=.agg #[.slice none 0 0,.int .i64 0,.string ⟨#[]⟩,.int .i64 0]) (by simp[results,Tryz.results30,go_sem,l0,l1,l2,l3]) rfl ⟨⟨[],0,⟨#[]⟩,0⟩,none,0,0,[],true,rfl,⟨World.ownsRow_nil _ _ _ _,by simp[Tr.strs]⟩,HG9,HS1⟩
end Pk
end Go.Proofs.YtcbpgemiffmieaaGreat
set_option maxRecDepth 100000
set_option maxHeartbeats 4000000
namespace Go.Proofs.YtcbpgemiffmieaaGreat
open Go.ChangeShapes Go.WideShapes Go.ChangeAt Go.RowKit
namespace Pk
open Tr Cx Cs Sp Rw Codec
def BytesP (k:K) (z:Bool) (w:World) (e:Ending) (w':World):Prop:=Below w.heap.size w w'∧((z=false∧e = .returned (.tuple #[.slice none 0 0,.int .i64 1]))∨(z=true∧60000<(causB k).length∧e = .returned (.tuple #[.slice none 0 0,.int .i64 3]))∨(z=true∧(causB k).length≤60000∧∃ A c,e = .returned (.tuple #[.slice A (causB k).length c,.int .i64 0])∧Own w' w.heap.size 5 1 A (causB k).length c (u8s (causB k))))
theorem out_new (w W:World) (a:Nat) (ha:a=w.heap.size) (hW:W=w.alloc (.cells #[.slice none 0 0,.bool false] 27)):OutAt W a none [] false:=by
 have h0:W.cell? ⟨a,0,none⟩=some (.slice none 0 0):=by rw[hW,ha];go_simp
 exact⟨⟨none,0,h0,rfl,World.ownsRow_nil _ _ _ _⟩,by rw[hW,ha];go_simp,by rw[hW,ha];go_simp,by rw[hW,ha];go_simp,by simp,by simp,fun h=>rfl⟩
theorem gb_below {w w':World} {a B:Nat} (h:w.grownBy w' (some a)) (ha:B≤a) (hB:B≤w.heap.size):Below B w w':=⟨h.os,h.tape,h.output,h.size,fun k hk=>h.block k (by omega) (fun e=>by injection e with e;omega)⟩
theorem bytes_any (t:T) (xs:List S3) (Ae Ak Ca:Option Addr) (ne nk ce ck na ca:Nat) (w:World) (z:Bool) (hz:rightKB (t,xs)=z) (hn:nodes t≤10000) (hl:xs.length=na) (hm:na≤10000) (hr:RdT w w.heap.size t ⟨Ae,ne,ce⟩ ⟨Ak,nk,ck⟩) (hc:Rd w w.heap.size 3 Ca na ca (spsC xs)) :
  Calls Tryz.prog 33 #[.agg #[.slice Ae ne ce,.slice Ak nk ck,.slice Ca na ca]] w (BytesP (t,xs) z w):=by
 obtain⟨p,hp⟩:∃ p,p=w.heap.size:=⟨_,rfl⟩;obtain⟨W,hW⟩:∃ W,W=w.alloc (.cells #[.slice Ae ne ce,.slice Ak nk ck,.slice Ca na ca] 37):=⟨_,rfl⟩
 have HK:Hid (Kept [(⟨p,0,none⟩,.slice Ae ne ce),(⟨p,1,none⟩,.slice Ak nk ck),(⟨p,2,none⟩,.slice Ca na ca)] w W):=by
  have h0:=Kept.nil_of (show Below w.heap.size w W by rw[hW];exact Dt.box_below _ _ _)
  refine ((h0.cons_of ?_).cons_of ?_).cons_of ?_ <;> (rw[hW,hp];go_simp)
 have HR:=Lib.hid hr;have HC:=Lib.hid hc;have HL:=Lib.hid hl;have HZ:=Lib.hid hz;have HQ:=Lib.hid (Cs.rightK_any t xs Ae Ak Ca ne nk ce ck na ca W hn hl hm (RdT.later hr HK.out.below) (hc.later HK.out.below));rw[hz]at HQ;have Hp:=Lib.hid hp;have HW:=Lib.hid hW;clear hr hc hl hz hp hW;go_enter Tryz.func33,Tryz.ntmps33;go_wp2_with fail
 try rw[← HW.out]
 try rw[← Hp.out]
 refine HQ.out.mono ?_;rintro e w1 ⟨rfl,hb1⟩;have HK1:=Lib.hid (HK.out.later hb1);obtain⟨k0,k1,k2,-⟩:=HK1.out.cj;clear hb1 HK HQ
 cases z with
 | false=>
  have HB:=Lib.hid HK1.out.below;go_wp2;go_ret2;exact⟨HB.out,.inl ⟨rfl,rfl⟩⟩
 | true=>
  have HT:=Lib.hid (rightKB_iff.1 HZ.out);obtain⟨a,ha⟩:∃ a,a=w1.heap.size:=⟨_,rfl⟩;obtain⟨WA,hWA⟩:∃ W,W=w1.alloc (.cells #[.slice none 0 0,.bool false] 27):=⟨_,rfl⟩
  have hbA:Below w1.heap.size w1 WA:=by rw[hWA];exact Dt.box_below _ _ _
  have HKA:=Lib.hid (HK1.out.later hbA);have HO:Hid (OutC WA [] w.heap.size a none [] false):=⟨out_new w1 WA a ha hWA,by rw[ha];exact HK1.out.below.size,(fun k hk=>by cases hk),(by simp)⟩;have HP:=Lib.hid (Pt.refl HO.out);have HBA:Hid (Below w.heap.size w WA):=HKA.out.below;have Ha:=Lib.hid ha;have HWA:=Lib.hid hWA;obtain⟨m0,m1,m2,-⟩:=HKA.out.cj;rw[hWA]at m0 m1 m2;clear ha hWA hbA k0 k1 k2;go_wp2_with fail;rw[← HWA.out]
  try rw[← Ha.out]
  clear m0 m1 m2;refine (HP.out.then (fun _ _ _ h=>pcaus_any t xs Ae Ak Ca ne nk ce ck na ca HT.out.tree (by omega) HL.out (by omega) (fun s hs=>right_spI HT.out.ctx hs) (RdT.below HR.out HBA.out) (HC.out.below HBA.out) h)).mono ?_;rintro e w2 ⟨rfl,HP2⟩;rw[List.nil_append]at HP2;have HB2:=Lib.hid (HBA.out.trans (HP2.out.below HO.out));obtain⟨g',hoc,_,_⟩:=HP2.out;have hend:=end_any a g' _ _ w2 hoc.at_;obtain⟨sb,hsb⟩:∃ s,s=causB (t,xs):=⟨_,rfl⟩;rw[← hsb]at hend;have HSB:=Lib.hid hsb
  by_cases hbig:60000<sb.length
  ·have e2:Codec.outL [] false sb=true:=by unfold Codec.outL;simpa using hbig
   rw[e2]at hend;have HE:=Lib.hid hend;clear hend hoc hsb HP HP2;go_wp2_with fail;refine HE.out.mono ?_;rintro e w3 ⟨hb3,⟨_,rfl⟩ | ⟨h,_⟩⟩
   ·have HB3:=Lib.hid (HB2.out.trans (hb3.mono HB2.out.size))
    clear hb3;go_wp2;go_ret2;exact⟨HB3.out,.inr (.inl ⟨rfl,by rw[← HSB.out];exact hbig,rfl⟩)⟩
   ·cases h
  ·have e1:Codec.outB [] false sb=sb:=by unfold Codec.outB;rw[if_neg (by simpa using hbig)];rfl
   have e2:Codec.outL [] false sb=false:=by unfold Codec.outL;simpa using hbig
   rw[e1,e2]at hend;obtain⟨m,hm9⟩:∃ m,m=sb.length:=⟨_,rfl⟩;have HM:=Lib.hid hm9;have HE:=Lib.hid hend;clear hend hoc hsb HP HP2 hm9;go_wp2_with fail;refine HE.out.mono ?_;rintro e w3 ⟨hb3,⟨h,_⟩ | ⟨_,A,c,rfl,ho⟩⟩
   ·cases h
   ·have HB3:=Lib.hid (HB2.out.trans (hb3.mono HB2.out.size))
    have HO3:=Lib.hid (ho.mono HB2.out.size);rw[← HM.out]at HO3 ⊢;clear hb3 ho;go_wp2;go_ret2;refine⟨HB3.out,.inr (.inr ⟨rfl,by rw[← HSB.out];omega,A,c,?_,?_⟩)⟩
    ·rw[← HSB.out,← HM.out];rfl
    ·rw[← HSB.out,← HM.out];exact HO3.out
def ReadS (bs:List UInt8) (u:K) (er:Int):Prop:=(er=0∧bs=causB u∧RK u)∨(er=2∧u=(none_,[])∧∀ k,RK k→bs≠causB k)
theorem read_s {bs r:List UInt8} {u:K} {b:Bool} (h:Got causB RK (none_,[]) bs u r b):((!b&&r.isEmpty)=true→ReadS bs u 0)∧((!b&&r.isEmpty)=false→ReadS bs (none_,[]) 2):=by
 refine⟨fun h1=>?_,fun h1=>?_⟩
 ·cases b with
  | true=>simp at h1
  | false=>
   have hr:r=[]:=by simpa using h1
   rcases h.1 with ⟨_,e⟩ | ⟨e,_⟩
   ·exact .inl ⟨rfl,by rw[e,hr,List.append_nil],h.2.1 rfl⟩
   ·cases e
 ·refine .inr ⟨rfl,rfl,fun k hk e=>?_⟩
  obtain⟨_,e2,e3⟩:=h.back (x:=[]) pre_caus hk (by rw[List.append_nil];exact e);rw[e2,e3]at h1
  simp at h1
theorem read_any (bs:List UInt8) (n:Nat) (A:Option Addr) (c:Nat) (w:World) (hl:bs.length=n) (hn:n≤100000) (hcap:CapK bs) (hr:Rd w w.heap.size 1 A n c (u8s bs)) :
  Calls Tryz.prog 35 #[.slice A n c] w fun e w'=>∃ (u:K) (se sk sc:SV) (er:Int),e = .returned (.tuple #[.agg #[.slice se.A se.n se.c,.slice sk.A sk.n sk.c,.slice sc.A sc.n sc.c],.int .i64 er])∧Hid (RdO w' (fun z=>w.heap.size≤z) u.1 se sk)∧Hid (u.2.length=sc.n)∧Hid (Own w' w.heap.size 100 3 sc.A sc.n sc.c (spsC u.2))∧Hid (ReadS bs u er)∧Hid (Below w.heap.size w w'):=by
 have HCAP:=Lib.hid hcap
 have hbs:bs.length≤100000:=by omega
 obtain⟨p,hp⟩:∃ p,p=w.heap.size:=⟨_,rfl⟩;obtain⟨W,hW⟩:∃ W,W=w.alloc (.cells #[.slice none 0 0,.slice none 0 0,.slice none 0 0] 37):=⟨_,rfl⟩
 have HK:Hid (Kept [(⟨p,0,none⟩,.slice none 0 0),(⟨p,1,none⟩,.slice none 0 0),(⟨p,2,none⟩,.slice none 0 0)] w W):=by
  have h0:=Kept.nil_of (show Below w.heap.size w W by rw[hW];exact Dt.box_below _ _ _)
  refine ((h0.cons_of ?_).cons_of ?_).cons_of ?_ <;> (rw[hW,hp];go_simp)
 have HF:Hid (Free p W):=⟨by rw[hW,hp];simp,fun j=>by rw[hW,hp];go_simp⟩;have HI:=Lib.hid (newin_any bs n A c W hl (by omega) (hr.later HK.out.below))
 have HPW:Hid (w.heap.size≤p):=by unfold Hid;omega
 have hszW:W.heap.size=p+1:=by rw[hW,hp];simp
 have HSZ:=Lib.hid hszW;have Hp:=Lib.hid hp;have HW:=Lib.hid hW;clear hr hl hcap hp hW hszW;go_enter Tryz.func35,Tryz.ntmps35;go_wp2_with fail
 try rw[← HW.out]
 try rw[← Hp.out]
 refine HI.out.mono ?_;rintro e w1 ⟨a,rfl,hwa,hin,hb1⟩
 have hpa:p<a:=by have:=HSZ.out;omega
 have HK1:=Lib.hid (HK.out.later hb1);have HF1:=Lib.hid (HF.out.later hb1)
 have HO:Hid (InC w1 [(⟨p,0,none⟩,.slice none 0 0),(⟨p,1,none⟩,.slice none 0 0),(⟨p,2,none⟩,.slice none 0 0)] [p] a bs false):=by
  refine⟨hin,fun x hx=>⟨(HK1.out.2 x hx).1,(HK1.out.2 x hx).2,?_⟩,fun q hq=>?_⟩
  ·simp only[List.mem_cons,List.not_mem_nil,or_false]at hx
   rcases hx with rfl | rfl | rfl <;> (dsimp only;omega)
  ·rw[List.mem_singleton.1 hq]
   exact⟨HF1.out,by omega⟩
 clear hin HI HK HF;go_wp2_with fail;refine (getcaus_any hbs HCAP.out HO.out).mono ?_;rintro e w2 ⟨u,⟨Ae,ne,ce⟩,⟨Ak,nk,ck⟩,⟨Ca,na,ca⟩,r,b,rfl,HRT,hlc,hoc,HG,HS⟩;have hw1:p+1≤w1.heap.size:=HF1.out.1;have HT:Hid (RdO w2 (fun z=>p+1≤z) u.1 ⟨Ae,ne,ce⟩ ⟨Ak,nk,ck⟩):=RdO.mono (fun z hz _=>by omega) _ HRT.out;have HC2:Hid (Own w2 (p+1) 100 3 Ca na ca (spsC u.2)):=hoc.out.mono hw1;have HB2:Hid (Below w.heap.size w w2):=HK1.out.below.trans (gb_below HG.out.2 (by have:=HPW.out;omega) HK1.out.below.size);have hdone:=done_any HG.out.1.at_;obtain⟨s,hs⟩:∃ s,s=w2.heap.size:=⟨_,rfl⟩;obtain⟨WS,hWS⟩:∃ W,W=w2.alloc (.cells #[.slice Ae ne ce,.slice Ak nk ck,.slice Ca na ca] 37):=⟨_,rfl⟩
 have hbS:Below w2.heap.size w2 WS:=by rw[hWS];exact Dt.box_below _ _ _
 have HGS:Hid (Gt a w1 ([(⟨s,0,none⟩,.slice Ae ne ce),(⟨s,1,none⟩,.slice Ak nk ck),(⟨s,2,none⟩,.slice Ca na ca)]++[(⟨p,0,none⟩,.slice none 0 0),(⟨p,1,none⟩,.slice none 0 0),(⟨p,2,none⟩,.slice none 0 0)]) ([]++[p]) r b WS):=by
  refine HG.out.add hbS ?_ (by simp);intro x hx;simp only[List.mem_cons,List.not_mem_nil,or_false]at hx
  rcases hx with rfl | rfl | rfl <;> exact⟨by dsimp only;omega,by rw[hWS];simp <;> omega,by rw[hWS,hs];go_simp⟩
 have hps:p<s:=by have h1:=HG.out.f0.1;omega
 have hsp:¬s=p:=by omega
 have hpsn:¬p=s:=by omega
 have HT9:Hid (RdO WS (fun z=>p+1≤z) u.1 ⟨Ae,ne,ce⟩ ⟨Ak,nk,ck⟩):=HT.out.later hbS;clear HT;have HT:=Lib.hid HT9.out;clear HT9;have HC29:Hid (Own WS (p+1) 100 3 Ca na ca (spsC u.2)):=own_later HC2.out hbS;clear HC2;have HC2:=Lib.hid HC29.out;clear HC29;have HBS:Hid (Below w.heap.size w WS):=HB2.out.trans (hbS.mono HB2.out.size);have hdone:=Lib.hid (done_any HGS.out.1.at_);have HWS:=Lib.hid hWS;have Hs:=Lib.hid hs;obtain⟨ok,hok⟩:∃ k,(!b&&r.isEmpty)=k:=⟨_,rfl⟩;have HRS:=Lib.hid (read_s HS.out);rw[hok]at hdone HRS;clear hs hWS hbS HG hok HB2 HS hoc HRT hb1;go_wp2_with fail;rw[← HWS.out]
 try rw[← Hs.out]
 refine hdone.out.mono ?_;rintro e w3 ⟨rfl,rfl⟩;clear hdone
 cases ok with
 | true=>
  have HS1:Hid (ReadS bs u 0):=HRS.out.1 rfl;have k0:=HGS.out.cell (p:=⟨p,0,none⟩) (v:=.slice none 0 0) (by simp);have k1:=HGS.out.cell (p:=⟨p,1,none⟩) (v:=.slice none 0 0) (by simp);have k2:=HGS.out.cell (p:=⟨p,2,none⟩) (v:=.slice none 0 0) (by simp);have j0:=HGS.out.cell (p:=⟨s,0,none⟩) (v:=.slice Ae ne ce) (by simp);have j1:=HGS.out.cell (p:=⟨s,1,none⟩) (v:=.slice Ak nk ck) (by simp);have j2:=HGS.out.cell (p:=⟨s,2,none⟩) (v:=.slice Ca na ca) (by simp);have f0:=(HGS.out.1.free p (by simp)).1.2 0;have f1:=(HGS.out.1.free p (by simp)).1.2 1;have f2:=(HGS.out.1.free p (by simp)).1.2 2;obtain⟨W9,hW9⟩:∃ W,W=(((WS.setCell ⟨p,0,none⟩ (.slice Ae ne ce)).setCell ⟨p,1,none⟩ (.slice Ak nk ck)).setCell ⟨p,2,none⟩ (.slice Ca na ca)):=⟨_,rfl⟩
  have HB9:Hid (Below w.heap.size w W9):=by unfold Hid;rw[hW9];exact ((HBS.out.setCell (p:=⟨p,0,none⟩) HPW.out _).setCell (p:=⟨p,1,none⟩) HPW.out _).setCell (p:=⟨p,2,none⟩) HPW.out _
  have HTW:Hid (RdO W9 (fun z=>w.heap.size≤z) u.1 ⟨Ae,ne,ce⟩ ⟨Ak,nk,ck⟩):=by
   refine RdO.mono (fun z hz _=>by have:=HPW.out;omega) _ (RdO.keep (ok:=fun z=>p+1≤z) (by rw[hW9];simp[World.setCell]) (fun z hz _=>?_) _ HT.out);rw[hW9];exact (((Below.heap_setCell _ ⟨p,2,none⟩ _ z (by dsimp only;omega)).trans (Below.heap_setCell _ ⟨p,1,none⟩ _ z (by dsimp only;omega))).trans (Below.heap_setCell _ ⟨p,0,none⟩ _ z (by dsimp only;omega)))
  have HC2W:Hid (Own W9 w.heap.size 100 3 Ca na ca (spsC u.2)):=by
   unfold Hid;rw[hW9];exact ((((HC2.out.set_below (a:=⟨p,0,none⟩) (by dsimp only;omega) _).set_below (a:=⟨p,1,none⟩) (by dsimp only;omega) _).set_below (a:=⟨p,2,none⟩) (by dsimp only;omega) _)).mono (by have:=HPW.out;omega)
  have l0:W9.cell? ⟨p,0,none⟩=some (.slice Ae ne ce):=by rw[hW9];go_simp
  have l1:W9.cell? ⟨p,1,none⟩=some (.slice Ak nk ck):=by rw[hW9];go_simp
  have l2:W9.cell? ⟨p,2,none⟩=some (.slice Ca na ca):=by rw[hW9];go_simp
  have HW9:=Lib.hid hW9;clear hW9;go_wp2;rw[← HW9.out];exact bodyPost_ret (v:=.tuple #[.agg #[.slice Ae ne ce,.slice Ak nk ck,.slice Ca na ca],.int .i64 0]) (by simp[results,Tryz.results35,go_sem,l0,l1,l2]) rfl ⟨u,⟨Ae,ne,ce⟩,⟨Ak,nk,ck⟩,⟨Ca,na,ca⟩,0,rfl,HTW,hlc,HC2W,HS1,HB9⟩
 | false=>
  have HS1:Hid (ReadS bs (none_,[]) 2):=HRS.out.2 rfl;have k0:=HGS.out.cell (p:=⟨p,0,none⟩) (v:=.slice none 0 0) (by simp);have k1:=HGS.out.cell (p:=⟨p,1,none⟩) (v:=.slice none 0 0) (by simp);have k2:=HGS.out.cell (p:=⟨p,2,none⟩) (v:=.slice none 0 0) (by simp);have j0:=HGS.out.cell (p:=⟨s,0,none⟩) (v:=.slice Ae ne ce) (by simp);have j1:=HGS.out.cell (p:=⟨s,1,none⟩) (v:=.slice Ak nk ck) (by simp);have j2:=HGS.out.cell (p:=⟨s,2,none⟩) (v:=.slice Ca na ca) (by simp);have f0:=(HGS.out.1.free p (by simp)).1.2 0;have f1:=(HGS.out.1.free p (by simp)).1.2 1;have f2:=(HGS.out.1.free p (by simp)).1.2 2;obtain⟨W9,hW9⟩:∃ W,W=(((WS.setCell ⟨p,0,none⟩ (.slice none 0 0)).setCell ⟨p,1,none⟩ (.slice none 0 0)).setCell ⟨p,2,none⟩ (.slice none 0 0)):=⟨_,rfl⟩
  have HB9:Hid (Below w.heap.size w W9):=by unfold Hid;rw[hW9];exact ((HBS.out.setCell (p:=⟨p,0,none⟩) HPW.out _).setCell (p:=⟨p,1,none⟩) HPW.out _).setCell (p:=⟨p,2,none⟩) HPW.out _
  have l0:W9.cell? ⟨p,0,none⟩=some (.slice none 0 0):=by rw[hW9];go_simp
  have l1:W9.cell? ⟨p,1,none⟩=some (.slice none 0 0):=by rw[hW9];go_simp
  have l2:W9.cell? ⟨p,2,none⟩=some (.slice none 0 0):=by rw[hW9];go_simp
  have HW9:=Lib.hid hW9;clear hW9;go_wp2;rw[← HW9.out];exact bodyPost_ret (v:=.tuple #[.agg #[.slice none 0 0,.slice none 0 0,.slice none 0 0],.int .i64 2]) (by simp[results,Tryz.results35,go_sem,l0,l1,l2]) rfl ⟨(none_,[]),⟨none,0,0⟩,⟨none,0,0⟩,⟨none,0,0⟩,2,rfl,RdO.none _ _ _ _ _ _,rfl,⟨World.ownsRow_nil _ _ _ _,by simp[spsC]⟩,HS1,HB9⟩
end Pk
end Go.Proofs.YtcbpgemiffmieaaGreat
namespace Go.Proofs.YtcbpgemiffmieaaGreat
open Go.ChangeShapes Go.WideShapes Go.ChangeAt Go.RowKit
namespace Cs
open Tr Cx Sp Rw Classical
end Cs
end Go.Proofs.YtcbpgemiffmieaaGreat
set_option maxRecDepth 100000
set_option maxHeartbeats 4000000
namespace Go.Proofs.YtcbpgemiffmieaaGreat
open Go.ChangeShapes Go.WideShapes Go.ChangeAt Go.RowKit
namespace Cs
open Tr Cx Sp Rw Classical
theorem smallK_any (t:T) (Ae Ak Ca:Option Addr) (ne nk ce ck na ca9:Nat) (w:World) (hl:LenT reachBytes t) (hr:RdT w w.heap.size t ⟨Ae,ne,ce⟩ ⟨Ak,nk,ck⟩) :
  Calls Tryz.prog 32 #[.agg #[.slice Ae ne ce,.slice Ak nk ck,.slice Ca na ca9],.int .i64 40] w fun e w'=>∃ b:Bool,e = .returned (.bool b)∧(b=true→nodes t≤40∧na≤40)∧Below w.heap.size w w':=by
 obtain⟨W,p,HW,HP,HKc⟩:=boxC1 w Ae Ak Ca ne nk ce ck na ca9;have HSM:=Lib.hid (small_to t Ae Ak ne nk ce ck 40 40 rfl W (by omega) hl (RdT.more HKc.out.below.size _ (RdT.below hr HKc.out.below)));obtain⟨c0,c1,c2,-⟩:=HKc.out.cj;clear hl hr;go_enter Tryz.func32,Tryz.ntmps32;go_wp2_with fail;rw[← HP.out,← HW.out];refine HSM.out.mono ?_;rintro e v1 ⟨b,rfl,hb,hb9⟩;have HKc:=Lib.hid (HKc.out.later hb9);have HB:=Lib.hid hb;clear hb hb9 c0 c1 c2;obtain⟨c0,c1,c2,-⟩:=HKc.out.cj
 cases b with
 | false=>
  go_wp2_with fail;go_ret;exact⟨false,rfl,fun h=>absurd h (by simp),HKc.out.below⟩
 | true=>
  have HB2:=Lib.hid (HB.out rfl);clear HB
  by_cases hm:na≤40
  ·have f1:decide ((na:Int)≤40)=true:=decide_eq_true (by omega)
   go_wp2_with fail;go_ret;exact⟨true,rfl,fun _=>⟨HB2.out,hm⟩,HKc.out.below⟩
  ·have f1:decide ((na:Int)≤40)=false:=decide_eq_false (by omega)
   go_wp2_with fail;go_ret;exact⟨false,rfl,fun h=>absurd h (by simp),HKc.out.below⟩
theorem refsameK_any (t u:T) (cs ds:List S3) (Ae Ak Ca Be Bk Cb:Option Addr) (ne nk ce ck na ca9 me mk de dk nb cb9:Nat) (w:World) (z:Bool) (hz:decide ((t,cs)=(u,ds))=z) (hn:nodes t≤1000000) (hl:cs.length=na) (hna:na≤1000000) (hr:RdT w w.heap.size t ⟨Ae,ne,ce⟩ ⟨Ak,nk,ck⟩) (hc:Rd w w.heap.size 3 Ca na ca9 (spsC cs)) (hl2:ds.length=nb) (hr2:RdT w w.heap.size u ⟨Be,me,de⟩ ⟨Bk,mk,dk⟩) (hc2:Rd w w.heap.size 3 Cb nb cb9 (spsC ds)) :
  Calls Tryz.prog 27 #[.agg #[.slice Ae ne ce,.slice Ak nk ck,.slice Ca na ca9],.agg #[.slice Be me de,.slice Bk mk dk,.slice Cb nb cb9]] w fun e w'=>e = .returned (.bool z)∧Below w.heap.size w w':=by
 have HZ:=Lib.hid hz;have HA:=Lib.hid (And.intro hl (And.intro hc (And.intro hl2 hc2)));clear hz hl hc hl2 hc2;obtain⟨W,p,q,HW,HP,HQ,HKc⟩:=boxC2 w Ae Ak Be Bk Ca Cb ne nk ce ck me mk de dk na ca9 nb cb9;obtain⟨c0,c1,c2,c3,c4,c5,-⟩:=HKc.out.cj;obtain⟨x,hx⟩:∃ x,eqB t u=x:=⟨_,rfl⟩;have HX:=Lib.hid hx;have HST:=Lib.hid (refsameT_any t u Ae Ak ne nk ce ck Be Bk me mk de dk W hn (RdT.more HKc.out.below.size _ (RdT.below hr HKc.out.below)) (RdT.more HKc.out.below.size _ (RdT.below hr2 HKc.out.below)));rw[hx]at HST;clear hr hr2 hx;go_enter Tryz.func27,Tryz.ntmps27;go_wp2_with fail;rw[← HW.out,← HP.out]
 try rw[← HQ.out]
 refine HST.out.mono ?_;rintro e v2 ⟨rfl,hb9⟩;have HKc:=Lib.hid (HKc.out.later hb9);clear hb9 c0 c1 c2 c3 c4 c5
 cases x with
 | false=>
  obtain rfl:z=false:=by
   rw[← HZ.out]
   exact decide_eq_false fun h=>by rw[eqB_yes (congrArg Prod.fst h)]at HX;cases HX.out
  go_wp2_with fail;go_ret;exact⟨by first | rfl | (rw[HZ.out];rfl) | rw[HZ.out],HKc.out.below⟩
 | true=>
  have htu:t=u:=eqB_iff.1 HX.out;obtain⟨c0,c1,c2,c3,c4,c5,-⟩:=HKc.out.cj
  have HSC:=Lib.hid (refsameC_any cs ds na nb Ca Cb ca9 cb9 v2 HA.out.1 HA.out.2.2.1 hna ((HA.out.2.1.below HKc.out.below).more HKc.out.below.size) ((HA.out.2.2.2.below HKc.out.below).more HKc.out.below.size) z (by
   rw[← HZ.out]
   by_cases h:cs=ds
   ·rw[decide_eq_true h,decide_eq_true (by rw[htu,h])]
   ·rw[decide_eq_false h,decide_eq_false fun h2=>h (congrArg Prod.snd h2)]))
  clear htu;go_wp2_with fail;refine HSC.out.mono ?_;rintro e v3 ⟨rfl,hb9⟩;have HKc:=Lib.hid (HKc.out.later hb9);clear hb9 c0 c1 c2 c3 c4 c5;go_wp2_with fail;go_ret;exact⟨by first | rfl | (rw[HZ.out];rfl) | rw[HZ.out],HKc.out.below⟩
structure CP where
 k:K
 e:SV
 d:SV
 c:SV
structure RdP (w:World) (p:CP):Prop where
 tree:RdT w w.heap.size p.k.1 p.e p.d
 len:p.k.2.length=p.c.n
 ctx:Rd w w.heap.size 3 p.c.A p.c.n p.c.c (spsC p.k.2)
theorem RdP.later {w w':World} {p:CP} (h:RdP w p) (hb:Below w.heap.size w w'):RdP w' p:=⟨RdT.later h.tree hb,h.len,h.ctx.later hb⟩
instance {p:CP} {v v':World} : Las v v' (RdP v p) (RdP v' p):=⟨fun h hb=>h.later hb⟩
def cpV (p:CP):List Value:=[.slice p.e.A p.e.n p.e.c,.slice p.d.A p.d.n p.d.c,.slice p.c.A p.c.n p.c.c]
def CellsP (w:World) (g:Nat) (ps:List CP):Prop:=∀ (k:Nat) (h:k<ps.length),w.cell? ⟨g,k*3,none⟩=some (.slice ps[k].e.A ps[k].e.n ps[k].e.c)∧w.cell? ⟨g,k*3+1,none⟩=some (.slice ps[k].d.A ps[k].d.n ps[k].d.c)∧w.cell? ⟨g,k*3+2,none⟩=some (.slice ps[k].c.A ps[k].c.n ps[k].c.c)
theorem CellsP.later {w w':World} {g:Nat} {ps:List CP} (h:CellsP w g ps) (hb:Below w.heap.size w w'):CellsP w' g ps:=fun k hk=>by
 obtain⟨h1,h2,h3⟩:=h k hk;have hg:=World.block_lt_of_cell? w _ h1;exact⟨(hb.cell (p:=⟨g,k*3,none⟩) hg).trans h1,(hb.cell (p:=⟨g,k*3+1,none⟩) hg).trans h2,(hb.cell (p:=⟨g,k*3+2,none⟩) hg).trans h3⟩
end Cs
end Go.Proofs.YtcbpgemiffmieaaGreat
set_option maxRecDepth 100000
set_option maxHeartbeats 4000000
namespace Go.Proofs.YtcbpgemiffmieaaGreat
open Go.ChangeShapes Go.WideShapes Go.ChangeAt Go.RowKit
namespace Pk
open Tr Cx Cs Sp Rw Codec
def knE:E:=⟨1,1,⟨#[97]⟩,3⟩
def knK:K:=(oneT knE,oneC 1 1)
theorem knE_right:RightE knE:=⟨by decide,by decide,by decide,by decide⟩
theorem knK_right:RK knK:=right_one (right_oneT knE_right) (right_oneC (by decide)) (by rw[has_oneC];decide)
theorem knK_bytes:causB knK=[2,2,2,2,97,6,0,2,2,2,2]:=by
 have n0:numB 0=[0]:=by show sev (foldN 0)=_;rw[show foldN 0=0 from rfl,sev_lt (by omega)];rfl
 have n1:numB 1=[2]:=by show sev (foldN 1)=_;rw[show foldN 1=2 from rfl,sev_lt (by omega)];rfl
 have n3:numB 3=[6]:=by show sev (foldN 3)=_;rw[show foldN 3=6 from rfl,sev_lt (by omega)];rfl
 have t1:txtB ⟨#[97]⟩=[2,97]:=by
  unfold txtB;rw[show (((⟨#[97]⟩:ByteArray).size:Nat):Int)=1 from rfl,n1];rfl
 unfold causB knK oneT oneC;dsimp only;rw[treeB_mk];unfold listB ctxB listB;simp only[List.length_cons,List.length_nil,List.flatMap_cons,List.flatMap_nil,List.append_nil];unfold entB spB knE;dsimp only;rw[show (((0:Nat):Int))=0 from rfl,show ((((0:Nat)+1:Nat)):Int)=1 from rfl,n0,n1,n3,t1];rfl
theorem known_any (w:World) :
  Calls Tryz.prog 37 #[] w fun e w'=>∃ (se sc:SV),e = .returned (.agg #[.slice se.A se.n se.c,.slice none 0 0,.slice sc.A sc.n sc.c])∧Hid (RdP w' ⟨knK,se,⟨none,0,0⟩,sc⟩)∧Below w.heap.size w w':=by
 obtain⟨W,hW⟩:∃ W,W=((w.alloc (.cells #[.slice (some ⟨w.heap.size+1,0,none⟩) 1 1,.slice none 0 0,.slice (some ⟨w.heap.size+1+1,0,none⟩) 1 1] 37)).alloc (.cells #[.int .i64 1,.int .i64 1,.string ⟨#[97]⟩,.int .i64 3] 116)).alloc (.cells #[.int .i64 1,.int .i64 1,.int .i64 1] 100):=⟨_,rfl⟩
 have HB:Hid (Below w.heap.size w W):=by
  unfold Hid;rw[hW];exact (((Below.refl _ _).alloc (Nat.le_refl _) _).alloc (by simp) _).alloc (by simp;omega) _
 have l0:W.cell? ⟨w.heap.size,0,none⟩=some (.slice (some ⟨w.heap.size+1,0,none⟩) 1 1):=by rw[hW];go_simp
 have l1:W.cell? ⟨w.heap.size,1,none⟩=some (.slice none 0 0):=by rw[hW];go_simp
 have l2:W.cell? ⟨w.heap.size,2,none⟩=some (.slice (some ⟨w.heap.size+1+1,0,none⟩) 1 1):=by rw[hW];go_simp
 have hsz:W.heap.size=w.heap.size+3:=by rw[hW];simp
 have HR:Hid (RdP W ⟨knK,⟨some ⟨w.heap.size+1,0,none⟩,1,1⟩,⟨none,0,0⟩,⟨some ⟨w.heap.size+1+1,0,none⟩,1,1⟩⟩):=by
  refine⟨?_,rfl,?_⟩
  ·show RdT W W.heap.size (.mk [knE] []) _ _
   rw[rdT_mk];refine⟨rfl,⟨rfl,Nat.le_refl _,fun u hu=>?_,fun _=>⟨_,_,rfl,by omega,fun j u hu=>?_⟩⟩,rfl,[],Rd.nil _,fun i hi=>by simp at hi⟩
   ·simp[entsC,entC]at hu
    rcases hu with rfl | rfl | rfl | rfl <;> rfl
   ·have e0:W.cell? ⟨w.heap.size+1,0+0,none⟩=some (.int .i64 1):=by rw[hW];go_simp
    have e1:W.cell? ⟨w.heap.size+1,0+1,none⟩=some (.int .i64 1):=by rw[hW];go_simp
    have e2:W.cell? ⟨w.heap.size+1,0+2,none⟩=some (.string ⟨#[97]⟩):=by rw[hW];go_simp
    have e3:W.cell? ⟨w.heap.size+1,0+3,none⟩=some (.int .i64 3):=by rw[hW];go_simp
    match j,hu with
    | 0,hu=>injection hu with hu;rw[← hu];exact e0
    | 1,hu=>injection hu with hu;rw[← hu];exact e1
    | 2,hu=>injection hu with hu;rw[← hu];exact e2
    | 3,hu=>injection hu with hu;rw[← hu];exact e3
    | j+4,hu=>cases hu
  ·refine⟨rfl,Nat.le_refl _,fun u hu=>?_,fun _=>⟨_,_,rfl,by omega,fun j u hu=>?_⟩⟩
   ·simp[spsC,spC,knK,oneC]at hu
    rcases hu with rfl | rfl | rfl <;> rfl
   ·have e0:W.cell? ⟨w.heap.size+1+1,0+0,none⟩=some (.int .i64 1):=by rw[hW];go_simp
    have e1:W.cell? ⟨w.heap.size+1+1,0+1,none⟩=some (.int .i64 1):=by rw[hW];go_simp
    have e2:W.cell? ⟨w.heap.size+1+1,0+2,none⟩=some (.int .i64 1):=by rw[hW];go_simp
    match j,hu with
    | 0,hu=>injection hu with hu;rw[← hu];exact e0
    | 1,hu=>injection hu with hu;rw[← hu];exact e1
    | 2,hu=>injection hu with hu;rw[← hu];exact e2
    | j+3,hu=>cases hu
 have HW:=Lib.hid hW;clear hW hsz;go_enter Tryz.func37,Tryz.ntmps37;go_wp2;rw[← HW.out];exact bodyPost_ret (v:=.agg #[.slice (some ⟨w.heap.size+1,0,none⟩) 1 1,.slice none 0 0,.slice (some ⟨w.heap.size+1+1,0,none⟩) 1 1]) (by simp[results,Tryz.results37,go_sem,l0,l1,l2]) rfl ⟨⟨_,_,_⟩,⟨_,_,_⟩,rfl,HR,HB.out⟩
theorem bytes_known (w:World) (se sc:SV) (hr:RdP w ⟨knK,se,⟨none,0,0⟩,sc⟩) :
  Calls Tryz.prog 33 #[.agg #[.slice se.A se.n se.c,.slice none 0 0,.slice sc.A sc.n sc.c]] w fun e w'=>∃ A c,e = .returned (.tuple #[.slice A 11 c,.int .i64 0])∧Hid (Own w' w.heap.size 5 1 A 11 c (u8s [2,2,2,2,97,6,0,2,2,2,2]))∧Below w.heap.size w w':=by
 have hk:rightKB knK=true:=rightKB_iff.2 knK_right;have hl1:(oneC 1 1).length=sc.n:=hr.len;refine (bytes_any (oneT knE) (oneC 1 1) se.A none sc.A se.n 0 se.c 0 sc.n sc.c w true hk (by rw[nodes_one];omega) hl1 (by rw[← hl1];decide) hr.tree hr.ctx).mono fun e w' h=>?_;obtain⟨hb,⟨h,_⟩ | ⟨_,h,_⟩ | ⟨_,_,A,c,he,ho⟩⟩:=h
 ·cases h
 ·rw[show causB (oneT knE,oneC 1 1)=_ from knK_bytes]at h
  simp at h
 ·rw[show causB (oneT knE,oneC 1 1)=_ from knK_bytes]at he ho
  exact⟨A,c,he,ho,hb⟩
theorem read_known (w:World) (A:Option Addr) (c:Nat) (hr:Rd w w.heap.size 1 A 11 c (u8s [2,2,2,2,97,6,0,2,2,2,2])) :
  Calls Tryz.prog 35 #[.slice A 11 c] w fun e w'=>∃ (se sk sc:SV),e = .returned (.tuple #[.agg #[.slice se.A se.n se.c,.slice sk.A sk.n sk.c,.slice sc.A sc.n sc.c],.int .i64 0])∧Hid (RdP w' ⟨knK,se,sk,sc⟩)∧Below w.heap.size w w':=by
 refine (read_any _ 11 A c w rfl (by omega) (cap_few (by simp)) hr).mono fun e w' h=>?_;obtain⟨u,se,sk,sc,er,he,h1,h2,h3,h4,h5⟩:=h
 rcases h4.out with ⟨e1,e2,_⟩ | ⟨_,_,hno⟩
 ·have e3:u=knK:=(caus_unlike u knK).1 (by rw[knK_bytes];exact e2.symm)
  subst e3;rw[e1]at he;exact⟨se,sk,sc,he,⟨RdO.rd _ h1.out,h2.out,h3.out.rd⟩,h5.out⟩
 ·exact absurd knK_bytes.symm (hno knK knK_right)
theorem awake16 (w:World):Calls Tryz.prog 9 #[] w fun e w'=>e = .returned (.bool true)∧Below w.heap.size w w':=by
 have hq:(strOf [2,2,2,2,97,6,0,2,2,2,2]).toList=([2,2,2,2,97,6,0,2,2,2,2]:List UInt8):=by decide +kernel
 have HKc:Hid (Kept [] w w):=Kept.nil_of (Below.refl _ _);go_enter Tryz.func9,Tryz.ntmps9;go_wp2_with fail;refine (known_any w).mono ?_;rintro e v1 ⟨⟨kA,kn,kc⟩,⟨kB,km,kd⟩,rfl,hr9,hb9⟩;have HKc:=Lib.hid (HKc.out.later hb9);clear hb9;have RK1:=Lib.hid hr9.out;clear hr9;go_wp2_with fail;refine (bytes_known v1 ⟨kA,kn,kc⟩ ⟨kB,km,kd⟩ RK1.out).mono ?_;rintro e v2 ⟨A,c,rfl,ho9,hb9⟩;have HKc:=Lib.hid (HKc.out.later hb9);have RK1:=Lib.hid (RK1.out.later hb9);clear hb9;have RB:=Lib.hid ho9.out.rd;clear ho9;go_wp2_with fail;refine (read_known v2 A c RB.out).mono ?_;rintro e v3 ⟨⟨xA,xn,xc⟩,⟨xB,xm,xd⟩,⟨xC,xo,xe⟩,rfl,hr9,hb9⟩;have HKc:=Lib.hid (HKc.out.later hb9);have RK1:=Lib.hid (RK1.out.later hb9);have RB:=Lib.hid (RB.out.later hb9);clear hb9;have RX:=Lib.hid hr9.out
 clear hr9;obtain⟨g,hg⟩:∃ g,g=v3.heap.size:=⟨_,rfl⟩;obtain⟨v4,hv4⟩:∃ W,W=v3.alloc (.cells #[.slice xA xn xc,.slice xB xm xd,.slice xC xo xe] 37):=⟨_,rfl⟩
 have hb9:Below v3.heap.size v3 v4:=by rw[hv4];exact Dt.box_below _ _ _
 have b0:v4.cell? ⟨g,0,none⟩=some (.slice xA xn xc):=by rw[hv4,hg];go_simp
 have b1:v4.cell? ⟨g,1,none⟩=some (.slice xB xm xd):=by rw[hv4,hg];go_simp
 have b2:v4.cell? ⟨g,2,none⟩=some (.slice xC xo xe):=by rw[hv4,hg];go_simp
 have HKc:=Lib.hid (HKc.out.later hb9);have RK1:=Lib.hid (RK1.out.later hb9);have RB:=Lib.hid (RB.out.later hb9);have RX:=Lib.hid (RX.out.later hb9);clear hb9;have HKc:=Lib.hid (((HKc.out.cons_of b2).cons_of b1).cons_of b0);have Hg:=Lib.hid hg;have Hv4:=Lib.hid hv4;clear hg hv4 b0 b1 b2;obtain⟨c0,c1,c2,-⟩:=HKc.out.cj;rw[Hv4.out]at c0 c1 c2;rw[Hg.out]at c0 c1 c2;go_wp2_with fail;rw[← Hg.out,← Hv4.out];clear c0 c1 c2;refine wp_region_held_drew (S:=Conj _) (by kernel_rfl) HKc.out.drew.cj (fun hHeld=>?_);obtain⟨v5,hv5⟩:∃ v,v=v4.drew:=⟨_,rfl⟩
 have hb9:Below v4.heap.size v4 v5:=by rw[hv5];exact (Below.refl _ _).drew
 have HKc:=Lib.hid (HKc.out.later hb9);have RK1:=Lib.hid (RK1.out.later hb9);have RB:=Lib.hid (RB.out.later hb9);have RX:=Lib.hid (RX.out.later hb9);clear hb9;rw[← hv5]at hHeld ⊢;clear hv5;refine Tk 0 15 ?_;refine Tk 1 16 ?_;refine Tk 2 17 ?_;refine Tk 3 18 ?_;refine Tk 4 19 ?_;refine Tk 5 20 ?_;refine Tk 6 21 ?_;refine Tk 7 22 ?_;refine Tc 8 (fun K hK=>?_);have hcv8:=run_str (P:=Tryz.prog) v5 25 9 5 Tryz.underlying25 Tryz.underlying5 Tryz.underlying9 RB.out;go_simp;refine hK.out _ _ ?_ (fun hHeld2=>?_)
 ·exact HKc.out.cj
 clear hK K hHeld hcv8;have hHeld:=hHeld2;clear hHeld2
 try simp only[Act.put,List.setIfInBounds_toArray,List.set_cons_zero,List.set_cons_succ]
 refine Tk 9 24 ?_;refine Tk 10 25 ?_;refine Tk 11 26 ?_;refine Tk 12 27 ?_;refine Tc 13 (fun K hK=>?_);go_simp;(go_at_call 37;refine (known_any v5).mono ?_);rintro e v6 ⟨⟨kX,km1,kx1⟩,⟨kY,km2,kx2⟩,rfl,hr9,hb9⟩;have HKc:=Lib.hid (HKc.out.later hb9);have RK1:=Lib.hid (RK1.out.later hb9);have RB:=Lib.hid (RB.out.later hb9);have RX:=Lib.hid (RX.out.later hb9);clear hb9;have RK2:=Lib.hid hr9.out;clear hr9;refine hK.out _ _ ?_ (fun hHeld2=>?_)
 ·exact HKc.out.cj
 clear hK K hHeld;have hHeld:=hHeld2;clear hHeld2
 try simp only[]
 refine Tc 14 (fun K hK=>?_);go_simp;(go_at_call 27;refine (refsameK_any (oneT knE) (oneT knE) (oneC 1 1) (oneC 1 1) xA xB xC kX none kY xn xm xc xd xo xe km1 0 kx1 0 km2 kx2 v6 true (by simp) (by rw[nodes_one];omega) RX.out.len (by have h:(oneC 1 1).length=xo:=RX.out.len;rw[← h];decide) RX.out.tree RX.out.ctx RK2.out.len RK2.out.tree RK2.out.ctx).mono ?_);rintro e v7 ⟨rfl,hb9⟩;have HKc:=Lib.hid (HKc.out.later hb9);have RK1:=Lib.hid (RK1.out.later hb9);have RB:=Lib.hid (RB.out.later hb9);have RX:=Lib.hid (RX.out.later hb9);have RK2:=Lib.hid (RK2.out.later hb9);clear hb9;clear hHeld;refine Th hK ?_ (fun hHeld=>?_)
 ·exact HKc.out.cj
 clear hK K;refine Tk 15 30 ?_;refine Tk 16 0 ?_;refine wpAnyH_done (by kernel_rfl) ?_ _;clear hHeld;go_wp2_with fail;go_ret;exact⟨by first | rfl | simp,HKc.out.below⟩
end Pk
end Go.Proofs.YtcbpgemiffmieaaGreat
namespace Go.Proofs.YtcbpgemiffmieaaGreat
open Go.ChangeShapes Go.WideShapes Go.ChangeAt Go.RowKit
namespace Cs
open Tr Cx Sp Rw Classical
theorem RdP.of_own {w:World} {lo:Nat} {k:K} {Ae Ak Ca:Option Addr} {ne ce nk ck na ca9:Nat} (h:OwC w lo k Ae ne ce Ak nk ck Ca na ca9):RdP w ⟨k,⟨Ae,ne,ce⟩,⟨Ak,nk,ck⟩,⟨Ca,na,ca9⟩⟩:=⟨h.rdT,h.len,h.ctx.rd⟩
theorem RdP.zero (w:World):RdP w ⟨noneK,⟨none,0,0⟩,⟨none,0,0⟩,⟨none,0,0⟩⟩:=⟨RdT.none _ _ _ _,rfl,Rd.nil _⟩
set_option maxRecDepth 100000 in
theorem cau_of_trod {H:Type} {enc:TypeId×Value→H} {W:World} {fuel:Nat} {cs:List Value} {x:DataW H×List MemPlace} (h:DataW.trod enc Tryz.prog W 0 (fun _=>true) true fuel 37 cs=some x) (hw:∀ m∈x.1.weights Tryz.prog 37,m≤reachBytes) :
  ∃ p:CP,cs=cpV p∧RdP W p∧LenT reachBytes p.k.1:=by
 obtain⟨f0,f1,hT,t0,o0,t1,o1⟩:∃ f0 f1:Field,Tryz.prog.underlying 37=some (.struct #[f0,f1])∧f0.type=35∧f0.offset=0∧f1.type=31∧f1.offset=2:=⟨_,_,Tryz.underlying37,rfl,rfl,rfl,rfl⟩;obtain⟨xs,n,rfl,rfl,hlen,hxl,hfs⟩:=DataW.trod_struct hT h
 have hc3:Tryz.prog.cellsOf 37=3:=by kernel_rfl
 have hc2:Tryz.prog.cellsOf 35=2:=by kernel_rfl
 have hc1:Tryz.prog.cellsOf 31=1:=by kernel_rfl
 rw[hc3]at hlen
 obtain⟨c0,c1,c2,rfl⟩:∃ c0 c1 c2,cs=[c0,c1,c2]:=by
  match cs,hlen with
  | [c0,c1,c2],_=>exact⟨_,_,_,rfl⟩
 have h0:=hfs 0 f0 rfl;have h1:=hfs 1 f1 rfl;rw[t0,o0,hc2,List.getElem?_eq_getElem (by rw[hxl];simp)]at h0;rw[t1,o1,hc1,List.getElem?_eq_getElem (by rw[hxl];simp)]at h1
 simp at h0 h1
 obtain⟨x0,x1,rfl⟩:∃ x0 x1,xs=[x0,x1]:=by
  match xs,hxl with
  | [x0,x1],_=>exact⟨_,_,rfl⟩
 simp at h0 h1
 have hw0:∀ m∈x0.1.weights Tryz.prog 35,m≤reachBytes:=fun m hm=>hw m (by simp only[DataW.weights,hT];simp[DataW.weightsEach,t0,t1,hm]);obtain⟨t,se,sk,e1,hr,hl⟩:=tree_of_trod types _ h0 hw0
 simp at e1
 obtain⟨rfl,rfl⟩:=e1
 obtain⟨A,nn,cc,rfl⟩:∃ A nn cc,c2 = .slice A nn cc:=by
  rcases DataW.trod_slice Tryz.underlying31 h1 with ⟨e,_⟩ | ⟨a,len,cap,_,_,_,_,e,_⟩ <;> exact⟨_,_,_,by simpa using e⟩
 obtain⟨l,hl1,hl2,_⟩:=ctx_of_trod (A:=A) (len:=nn) (cap:=cc) h1;exact⟨⟨(t,l),se,sk,⟨A,nn,cc⟩⟩,rfl,⟨hr,hl1,hl2⟩,hl⟩
set_option maxRecDepth 100000 in
theorem cauV_of_trod {H:Type} {enc:TypeId×Value→H} {W:World} {b0:Nat} {v:Value} {d:DataW H} {p:List MemPlace}
  (hv:Value.okWide Tryz.prog W .any b0 37 v) (h:DataW.Trod enc Tryz.prog W 0 (fun _=>true) true 37 v d p) (hw:∀ m∈d.weights Tryz.prog 37,m≤reachBytes) :
  ∃ (t:T) (cs:List S3) (Ae Ak Ca:Option Addr) (ne nk ce ck na ca9:Nat),v = .agg #[.slice Ae ne ce,.slice Ak nk ck,.slice Ca na ca9]∧RdP W ⟨(t,cs),⟨Ae,ne,ce⟩,⟨Ak,nk,ck⟩,⟨Ca,na,ca9⟩⟩∧LenT reachBytes t:=by
 obtain⟨cs,rfl,hsz⟩:∃ cs,v = .agg cs∧cs.size = Tryz.prog.cellsOf 37:=by
  simp only[Value.okWide,Tryz.underlying37]at hv;obtain⟨cs,h1,h2,_⟩:=hv;exact⟨cs,h1,h2⟩
 obtain⟨fuel,hf⟩:=h;obtain⟨⟨⟨t,l⟩,⟨Ae,ne,ce⟩,⟨Ak,nk,ck⟩,⟨Ca,na,ca9⟩⟩,he,hr,hl⟩:=cau_of_trod hf hw;refine⟨t,l,Ae,Ak,Ca,ne,nk,ce,ck,na,ca9,?_,hr,hl⟩;have:cs.toList=[.slice Ae ne ce,.slice Ak nk ck,.slice Ca na ca9]:=he;rw[← Array.toArray_toList (xs:=cs),this]
end Cs
end Go.Proofs.YtcbpgemiffmieaaGreat
namespace Go.Proofs.YtcbpgemiffmieaaGreat
open Go.ChangeShapes Go.WideShapes Go.ChangeAt Go.RowKit
namespace Pk
open Tr Cx Cs Sp Rw Codec
structure Thg where
 kd:Int
 c:List S3
 t:T
 xs:List S3
 o:OpM
 v:V4
 sc:SV
 se:SV
 sk:SV
 sx:SV
 sp:SV
def thC (x:Thg):List Value:=[.int .u8 x.kd,.slice x.sc.A x.sc.n x.sc.c,.slice x.se.A x.se.n x.se.c,.slice x.sk.A x.sk.n x.sk.c,.slice x.sx.A x.sx.n x.sx.c,.slice x.sp.A x.sp.n x.sp.c,.int .i64 x.o.act,.string x.o.s,.int .i64 x.o.n,.int .i64 x.v.1,.int .i64 x.v.2.1,.int .i64 x.v.2.2.1,.int .i64 x.v.2.2.2]
theorem thC_len (x:Thg):(thC x).length=13:=rfl
structure ThOk (w:World) (B:Nat) (x:Thg):Prop where
 lc:x.c.length=x.sc.n
 rc:Rd w B 3 x.sc.A x.sc.n x.sc.c (spsC x.c)
 rt:RdT w B x.t x.se x.sk
 lt:LenT reachBytes x.t
 lx:x.xs.length=x.sx.n
 rx:Rd w B 3 x.sx.A x.sx.n x.sx.c (spsC x.xs)
 rp:Rd w B 1 x.sp.A x.sp.n x.sp.c (Tr.strs x.o.path)
 kd:0≤x.kd∧x.kd≤255
theorem ThOk.below {w w':World} {B:Nat} {x:Thg} (h:ThOk w B x) (hb:Below B w w'):ThOk w' B x:=⟨h.lc,h.rc.below hb,RdT.below h.rt hb,h.lt,h.lx,h.rx.below hb,h.rp.below hb,h.kd⟩
theorem ThOk.more {w:World} {B B':Nat} {x:Thg} (h:ThOk w B x) (hB:B≤B'):ThOk w B' x:=⟨h.lc,h.rc.more hB,RdT.more hB _ h.rt,h.lt,h.lx,h.rx.more hB,h.rp.more hB,h.kd⟩
def ThRd (w:World) (B:Nat) (A:Option Addr) (n c:Nat) (l:List Thg):Prop:=l.length=n∧Rd w B 13 A n c (l.flatMap thC)∧∀ x∈l,ThOk w B x
theorem ThRd.below {w w':World} {B n c:Nat} {A:Option Addr} {l:List Thg} (h:ThRd w B A n c l) (hb:Below B w w'):ThRd w' B A n c l:=⟨h.1,h.2.1.below hb,fun x hx=>(h.2.2 x hx).below hb⟩
theorem ThRd.more {w:World} {B B' n c:Nat} {A:Option Addr} {l:List Thg} (h:ThRd w B A n c l) (hB:B≤B'):ThRd w B' A n c l:=⟨h.1,h.2.1.more hB,fun x hx=>(h.2.2 x hx).more hB⟩
theorem ThRd.later {w w':World} {n c:Nat} {A:Option Addr} {l:List Thg} (h:ThRd w w.heap.size A n c l) (hb:Below w.heap.size w w'):ThRd w' w'.heap.size A n c l:=(h.below hb).more hb.size
def Few (l:List Thg) (n:Nat):Prop:=n≤12∧∀ x∈l,x.sc.n≤60∧nodes x.t≤40∧x.sx.n≤40∧x.sp.n≤9
set_option maxRecDepth 100000 in
set_option maxHeartbeats 4000000 in
theorem few_any16 (l:List Thg) (n:Nat) (A:Option Addr) (c:Nat) (w:World) (hl:ThRd w w.heap.size A n c l) :
  Calls Tryz.prog 10 #[.slice A n c] w fun e w'=>∃ b:Bool,e = .returned (.bool b)∧Hid (b=true→Few l n)∧Below w.heap.size w w':=by
 have HL:=Lib.hid hl;clear hl;go_enter Tryz.func10,Tryz.ntmps10
 by_cases h12:12<n
 ·have f12:decide ((12:Int)<(n:Int))=true:=decide_eq_true (by omega)
  go_wp2;go_ret;exact⟨false,rfl,(fun h=>by cases h),Below.refl _ _⟩
 ·have f12:decide ((12:Int)<(n:Int))=false:=decide_eq_false (by omega)
  go_wp2
  go_loopw [9] (fun i wr=>∃ k:Nat,i = .int .i64 k∧k≤n∧Hid (Below w.heap.size w wr)∧Hid (∀ x∈l.take k,x.sc.n≤60∧nodes x.t≤40∧x.sx.n≤40∧x.sp.n≤9)) (fun i _=>n-(intOf i).toNat)
  case atStart=>exact⟨0,rfl,Nat.zero_le _,Below.refl _ _,by unfold Hid;simp⟩
  case round=>
   obtain⟨k,rfl,hk,HB,HF⟩:=hrel
   by_cases hlt:k<n
   ·have hkl:k<l.length:=by rw[HL.out.1];exact hlt
    obtain⟨b,o,rfl,hb,hc⟩:=rd_elem thC_len (l:=l) HL.out.2.1 hlt;have c0:=(HB.out.cell (p:=⟨b,o+k*13+0,none⟩) hb).trans (hc k hkl 0 _ rfl);have c1:=(HB.out.cell (p:=⟨b,o+k*13+1,none⟩) hb).trans (hc k hkl 1 _ rfl);have c2:=(HB.out.cell (p:=⟨b,o+k*13+2,none⟩) hb).trans (hc k hkl 2 _ rfl);have c3:=(HB.out.cell (p:=⟨b,o+k*13+3,none⟩) hb).trans (hc k hkl 3 _ rfl);have c4:=(HB.out.cell (p:=⟨b,o+k*13+4,none⟩) hb).trans (hc k hkl 4 _ rfl);have c5:=(HB.out.cell (p:=⟨b,o+k*13+5,none⟩) hb).trans (hc k hkl 5 _ rfl);have c6:=(HB.out.cell (p:=⟨b,o+k*13+6,none⟩) hb).trans (hc k hkl 6 _ rfl);have c7:=(HB.out.cell (p:=⟨b,o+k*13+7,none⟩) hb).trans (hc k hkl 7 _ rfl);have c8:=(HB.out.cell (p:=⟨b,o+k*13+8,none⟩) hb).trans (hc k hkl 8 _ rfl);have c9:=(HB.out.cell (p:=⟨b,o+k*13+9,none⟩) hb).trans (hc k hkl 9 _ rfl)
    have c10:=(HB.out.cell (p:=⟨b,o+k*13+10,none⟩) hb).trans (hc k hkl 10 _ rfl);have c11:=(HB.out.cell (p:=⟨b,o+k*13+11,none⟩) hb).trans (hc k hkl 11 _ rfl);have c12:=(HB.out.cell (p:=⟨b,o+k*13+12,none⟩) hb).trans (hc k hkl 12 _ rfl);obtain⟨x,hx⟩:∃ x,x=l[k]:=⟨_,rfl⟩;have HOK:=Lib.hid (((HL.out.2.2 x (hx▸List.getElem_mem hkl)).below HB.out).more HB.out.size)
    have htk:l.take (k+1)=l.take k++[x]:=by rw[hx];exact List.take_succ_eq_append_getElem hkl
    have HTK:=Lib.hid htk;rw[← hx]at c0 c1 c2 c3 c4 c5 c6 c7 c8 c9 c10 c11 c12;rw[Nat.add_zero]at c0;clear hc hx htk
    by_cases h60:60<x.sc.n
    ·have f60:decide ((60:Int)<(x.sc.n:Int))=true:=decide_eq_true (by omega)
     go_wp2;go_ret;exact⟨false,rfl,(fun h=>by cases h),HB.out⟩
    ·have f60:decide ((60:Int)<(x.sc.n:Int))=false:=decide_eq_false (by omega)
     have h60':x.sc.n≤60:=by omega
     go_wp2_with fail;refine (smallK_any x.t x.se.A x.sk.A x.sx.A x.se.n x.sk.n x.se.c x.sk.c x.sx.n x.sx.c wr HOK.out.lt HOK.out.rt).mono ?_;rintro e w1 ⟨b1,rfl,hs1,hb1⟩;have HB1:=Lib.hid (HB.out.trans (hb1.mono HB.out.size));have HP1:=Lib.hid (HOK.out.rp.later hb1);have HS1:=Lib.hid hs1;have e5:=(hb1.cell (p:=⟨b,o+k*13+5,none⟩) (Nat.lt_of_lt_of_le hb HB.out.size)).trans c5;have e6:=(hb1.cell (p:=⟨b,o+k*13+6,none⟩) (Nat.lt_of_lt_of_le hb HB.out.size)).trans c6;have e7:=(hb1.cell (p:=⟨b,o+k*13+7,none⟩) (Nat.lt_of_lt_of_le hb HB.out.size)).trans c7;have e8:=(hb1.cell (p:=⟨b,o+k*13+8,none⟩) (Nat.lt_of_lt_of_le hb HB.out.size)).trans c8;clear hb1 hs1
     cases b1 with
     | false=>
      go_wp2;go_ret;exact⟨false,rfl,(fun h=>by cases h),HB1.out⟩
     | true=>
      have H4:=Lib.hid (HS1.out rfl);clear HS1;go_wp2_with fail;refine (refshort_any x.o.path x.o.act x.o.s x.o.n x.sp.A x.sp.n x.sp.c w1 HP1.out).mono ?_;rintro e w2 ⟨z,rfl,hz,hb2⟩;have HB2:=Lib.hid (HB1.out.trans (hb2.mono HB1.out.size));clear hb2
      cases z with
      | false=>
       go_wp2;go_ret;exact⟨false,rfl,(fun h=>by cases h),HB2.out⟩
      | true=>
       have hz9:=hz.out rfl;obtain⟨h40,h41⟩:=H4.out
       have HF2:Hid (∀ x∈l.take (k+1),x.sc.n≤60∧nodes x.t≤40∧x.sx.n≤40∧x.sp.n≤9):=by
        unfold Hid;rw[HTK.out];intro y hy
        rcases List.mem_append.1 hy with hy | hy
        ·exact HF.out y hy
        ·rw[List.mem_singleton.1 hy]
         exact⟨h60',h40,h41,hz9⟩
       clear HF HTK H4 hz h40 h41 hz9;go_wp2_with fail;go_roundw
       case rel=>exact⟨k+1,by go_num,by omega,HB2,HF2⟩
       case measure=>simp[intOf];omega
   ·have hke:k=n:=by omega
    have HFF:Hid (Few l n):=by
     refine⟨by omega,?_⟩;have h1:=HF.out;rw[hke,← HL.out.1,List.take_length]at h1;exact h1
    clear HF;go_wp2;go_ret;exact⟨true,rfl,fun _=>HFF.out,HB.out⟩
end Pk
end Go.Proofs.YtcbpgemiffmieaaGreat
set_option maxRecDepth 100000
set_option maxHeartbeats 4000000
namespace Go.Proofs.YtcbpgemiffmieaaGreat
open Go.ChangeShapes Go.WideShapes Go.ChangeAt Go.RowKit
namespace Pk
open Tr Cx Cs Sp Rw Codec
theorem putcaus_any (t:T) (xs:List S3) (Ae Ak Ca:Option Addr) (ne nk ce ck n c:Nat) (z:Bool) (hz:rightKB (t,xs)=z) (u:K) (hu:u=if z then (t,xs)else (none_,[])) {w:World} {l:List (Addr×Value)} {B a:Nat} {g:Option Nat} {bs:List UInt8} {long:Bool} (hn:nodes t≤10000) (hl:xs.length=n) (hm:n≤10000) (hr:RdT w B t ⟨Ae,ne,ce⟩ ⟨Ak,nk,ck⟩) (hc:Rd w B 3 Ca n c (spsC xs)) (h:OutC w l B a g bs long) :
  Calls Tryz.prog 43 #[.pointer (some ⟨a,0,none⟩),.agg #[.slice Ae ne ce,.slice Ak nk ck,.slice Ca n c]] w fun e w'=>e = .returned (.tuple #[])∧Pt B a g bs long w l (causB u) w':=by
 have HO:=Lib.hid h;have HP:=Lib.hid (Pt.refl h);have HR:=Lib.hid hr;have HRC:=Lib.hid hc;have HZ:=Lib.hid hz;have HU:=Lib.hid hu;have HL:=Lib.hid hl;clear hr hc hz hu hl;clear h;obtain⟨p,hp⟩:∃ p,p=w.heap.size:=⟨_,rfl⟩;obtain⟨W,hW⟩:∃ W,W=(w.alloc (.cells #[.slice Ae ne ce,.slice Ak nk ck,.slice Ca n c] 37)):=⟨_,rfl⟩
 have hbW:Below w.heap.size w W:=by rw[hW];exact (Below.refl _ _).alloc (Nat.le_refl _) _
 have hszW:W.heap.size=w.heap.size+1:=by rw[hW];simp
 have HP1:Hid (Pt B a g bs long w ([(⟨p,0,none⟩,.slice Ae ne ce),(⟨p,1,none⟩,.slice Ak nk ck),(⟨p,2,none⟩,.slice Ca n c)]++l) [] W):=by
  refine HP.out.add hbW ?_;intro x hx;simp only[List.mem_cons,List.not_mem_nil,or_false]at hx
  rcases hx with rfl | rfl | rfl <;> exact⟨by dsimp only;omega,by dsimp only;omega,by rw[hW];(try rw[hp]);go_simp⟩
 have HBW:=Lib.hid hbW;have HF:Hid (Free p W):=⟨by rw[hW,hp];simp,fun j=>by rw[hW,hp];go_simp⟩
 have hpw:w.heap.size≤p:=by omega
 have HPW:=Lib.hid hpw;have HW:=Lib.hid hW;have Hp:=Lib.hid hp;clear hpw hW hbW hszW HP hp;go_enter Tryz.func43,Tryz.ntmps43;go_wp2_with fail;rw[← HW.out]
 try rw[← Hp.out]
 have HC:=Lib.hid (Cs.rightK_any t xs Ae Ak Ca ne nk ce ck n c W hn HL.out hm (RdT.more (Nat.le_trans HO.out.bw HBW.out.size) _ (RdT.below HR.out (HBW.out.mono HO.out.bw))) ((HRC.out.below (HBW.out.mono HO.out.bw)).more (Nat.le_trans HO.out.bw HBW.out.size)));rw[HZ.out]at HC;refine HC.out.mono ?_;rintro e w1 ⟨rfl,hb1⟩;have HP2:=Lib.hid (HP1.out.later hb1);have HF2:=Lib.hid (HF.out.later hb1);have HB2:=Lib.hid (HP2.out.below HO.out);clear hb1 HP1 HF
 cases z with
 | true=>
  have hu2:u=(t,xs):=by have h:=HU.out;simpa using h
  subst hu2;have HT:=Lib.hid (rightKB_iff.1 HZ.out);have k0:=HP2.out.c0;have k1:=HP2.out.c1;have k2:=HP2.out.c2;go_wp2_with fail;refine (HP2.out.then (fun _ _ _ h=>pcaus_any t xs Ae Ak Ca ne nk ce ck n c HT.out.tree (by omega) HL.out (by omega) (fun s hs=>right_spI HT.out.ctx hs) (RdT.below HR.out HB2.out) (HRC.out.below HB2.out) h)).mono ?_;rintro e v1 ⟨rfl,HQ1⟩;clear k0;clear k1;clear k2;have k0:=HQ1.out.c0;have k1:=HQ1.out.c1;have k2:=HQ1.out.c2;have HBQ1:=Lib.hid (HQ1.out.below HO.out);clear HP2;go_wp2
  go_end0
  refine⟨rfl,?_⟩;have h9:=HQ1.out.sub (l2:=l) (fun x hx=>List.mem_append_right _ hx)
  simpa only [List.nil_append,List.append_assoc] using h9
 | false=>
  have hu2:u=(none_,[]):=by have h:=HU.out;simpa using h
  subst hu2;have k0:=HP2.out.c0;have k1:=HP2.out.c1;have k2:=HP2.out.c2;have f0:=HF2.out.2 0;have f1:=HF2.out.2 1;have f2:=HF2.out.2 2;obtain⟨WS,hWS⟩:∃ W,W=(((w1.setCell ⟨p,0,none⟩ (.slice none 0 0)).setCell ⟨p,1,none⟩ (.slice none 0 0)).setCell ⟨p,2,none⟩ (.slice none 0 0)):=⟨_,rfl⟩
  have HPS:Hid (Pt B a g bs long w ([(⟨p,0,none⟩,.slice none 0 0),(⟨p,1,none⟩,.slice none 0 0),(⟨p,2,none⟩,.slice none 0 0)]++l) [] WS):=by
   refine HP2.out.store HO.out (p:=p) (j:=0) (List.mem_append_left _ (List.mem_cons_self)) HPW.out (fun x hx=>⟨List.mem_append_right _ hx,fun e=>?_⟩) (by rw[hWS];exact (((Two.refl _ _ _).setCell 0 _).setCell 1 _).setCell 2 _) ?_
   ·have h1:=(HO.out.cells x hx).1
    have h2:=HPW.out;omega
   ·intro x hx
    simp only[List.mem_cons,List.not_mem_nil,or_false]at hx
    rcases hx with rfl | rfl | rfl <;> exact⟨rfl,by rw[hWS];go_simp⟩
  have HBS:=Lib.hid (HPS.out.below HO.out);have HWS:=Lib.hid hWS;clear hWS;go_wp2_with fail
  try rw[← HWS.out]
  refine (HPS.out.then (fun _ _ _ h=>pcaus_any none_ [] none none none 0 0 0 0 0 0 RightT.none (by simp[none_,nodes_mk]) rfl (by omega) (by simp) (RdT.none _ _ _ _) (Rd.nil _) h)).mono ?_;rintro e v1 ⟨rfl,HQ1⟩;clear k0;clear k1;clear k2;have k0:=HQ1.out.c0;have k1:=HQ1.out.c1;have k2:=HQ1.out.c2;have HBQ1:=Lib.hid (HQ1.out.below HO.out);clear HPS;go_wp2
  go_end0
  refine⟨rfl,?_⟩;have h9:=HQ1.out.sub (l2:=l) (fun x hx=>List.mem_append_right _ hx)
  simpa only [List.nil_append,List.append_assoc] using h9
theorem putop_any (xp:List ByteArray) (xa:Int) (xs:ByteArray) (xv:Int) (xA:Option Addr) (xn xc:Nat) (z:Bool) (hz:decide (opE ⟨xp,xa,xs,xv⟩=0)=z) (u:OpM) (hu:u=if z then⟨xp,xa,xs,xv⟩else⟨[],0,⟨#[]⟩,0⟩) {w:World} {l:List (Addr×Value)} {B a:Nat} {g:Option Nat} {bs:List UInt8} {long:Bool} (hn:xn≤100000) (hr:Rd w B 1 xA xn xc (strs xp)) (h:OutC w l B a g bs long) :
  Calls Tryz.prog 44 #[.pointer (some ⟨a,0,none⟩),.agg #[.slice xA xn xc,.int .i64 xa,.string xs,.int .i64 xv]] w fun e w'=>e = .returned (.tuple #[])∧Pt B a g bs long w l (opB u) w':=by
 have HO:=Lib.hid h;have HP:=Lib.hid (Pt.refl h);have HL:=Lib.hid (rd_len1 hr);have HR:=Lib.hid hr;have HZ:=Lib.hid hz;have HU:=Lib.hid hu;clear hr hz hu;clear h;obtain⟨p,hp⟩:∃ p,p=w.heap.size:=⟨_,rfl⟩;obtain⟨W,hW⟩:∃ W,W=(w.alloc (.cells #[.slice xA xn xc,.int .i64 xa,.string xs,.int .i64 xv] 40)):=⟨_,rfl⟩
 have hbW:Below w.heap.size w W:=by rw[hW];exact (Below.refl _ _).alloc (Nat.le_refl _) _
 have hszW:W.heap.size=w.heap.size+1:=by rw[hW];simp
 have HP1:Hid (Pt B a g bs long w ([(⟨p,0,none⟩,.slice xA xn xc),(⟨p,1,none⟩,.int .i64 xa),(⟨p,2,none⟩,.string xs),(⟨p,3,none⟩,.int .i64 xv)]++l) [] W):=by
  refine HP.out.add hbW ?_;intro x hx;simp only[List.mem_cons,List.not_mem_nil,or_false]at hx
  rcases hx with rfl | rfl | rfl | rfl <;> exact⟨by dsimp only;omega,by dsimp only;omega,by rw[hW];(try rw[hp]);go_simp⟩
 have HBW:=Lib.hid hbW;have HF:Hid (Free p W):=⟨by rw[hW,hp];simp,fun j=>by rw[hW,hp];go_simp⟩
 have hpw:w.heap.size≤p:=by omega
 have HPW:=Lib.hid hpw;have HW:=Lib.hid hW;have Hp:=Lib.hid hp;clear hpw hW hbW hszW HP hp;go_enter Tryz.func44,Tryz.ntmps44;go_wp2_with fail;rw[← HW.out]
 try rw[← Hp.out]
 have HC:=Lib.hid (Cs.oright_any xp xa xs xv xA xn xc W z HZ.out (by omega) ((HR.out.below (HBW.out.mono HO.out.bw)).more (Nat.le_trans HO.out.bw HBW.out.size)));refine HC.out.mono ?_;rintro e w1 ⟨rfl,hb1⟩;have HP2:=Lib.hid (HP1.out.later hb1);have HF2:=Lib.hid (HF.out.later hb1);have HB2:=Lib.hid (HP2.out.below HO.out);clear hb1 HP1 HF
 cases z with
 | true=>
  have hu2:u=⟨xp,xa,xs,xv⟩:=by have h:=HU.out;simpa using h
  subst hu2;have HI:=Lib.hid (op_ok (opE_zero.1 (of_decide_eq_true HZ.out)));have k0:=HP2.out.c0;have k1:=HP2.out.c1;have k2:=HP2.out.c2;have k3:=HP2.out.c3;go_wp2_with fail;refine (HP2.out.then (fun _ _ _ h=>putAllSt_any xp xn xc xA HL.out (by omega) (fun k hk=>by have:=HI.out.2.1 k hk;unfold maxLen;omega) (HR.out.below HB2.out) h)).mono ?_;rintro e v1 ⟨rfl,HQ1⟩;clear k0;clear k1;clear k2;clear k3;have k0:=HQ1.out.c0;have k1:=HQ1.out.c1;have k2:=HQ1.out.c2;have k3:=HQ1.out.c3;have HBQ1:=Lib.hid (HQ1.out.below HO.out);clear HP2;go_wp2_with fail;refine (HQ1.out.then (fun _ _ _ h=>pnum_any xa HI.out.2.2.1 h)).mono ?_;rintro e v2 ⟨rfl,HQ2⟩;clear k0;clear k1;clear k2;clear k3;have k0:=HQ2.out.c0;have k1:=HQ2.out.c1;have k2:=HQ2.out.c2;have k3:=HQ2.out.c3;have HBQ2:=Lib.hid (HQ2.out.below HO.out);clear HQ1;go_wp2_with fail
  refine (HQ2.out.then (fun _ _ _ h=>ptext_any xs (by have:=HI.out.2.2.2.1;unfold maxLen;dsimp only at this;omega) h)).mono ?_;rintro e v3 ⟨rfl,HQ3⟩;clear k0;clear k1;clear k2;clear k3;have k0:=HQ3.out.c0;have k1:=HQ3.out.c1;have k2:=HQ3.out.c2;have k3:=HQ3.out.c3;have HBQ3:=Lib.hid (HQ3.out.below HO.out);clear HQ2;go_wp2_with fail;refine (HQ3.out.then (fun _ _ _ h=>pnum_any xv HI.out.2.2.2.2 h)).mono ?_;rintro e v4 ⟨rfl,HQ4⟩;clear k0;clear k1;clear k2;clear k3;have k0:=HQ4.out.c0;have k1:=HQ4.out.c1;have k2:=HQ4.out.c2;have k3:=HQ4.out.c3;have HBQ4:=Lib.hid (HQ4.out.below HO.out);clear HQ3;go_wp2
  go_end0
  refine⟨rfl,?_⟩;have h9:=HQ4.out.sub (l2:=l) (fun x hx=>List.mem_append_right _ hx)
  simpa only [List.nil_append,List.append_assoc,opB] using h9
 | false=>
  have hu2:u=⟨[],0,⟨#[]⟩,0⟩:=by have h:=HU.out;simpa using h
  subst hu2;have k0:=HP2.out.c0;have k1:=HP2.out.c1;have k2:=HP2.out.c2;have k3:=HP2.out.c3;have f0:=HF2.out.2 0;have f1:=HF2.out.2 1;have f2:=HF2.out.2 2;have f3:=HF2.out.2 3;obtain⟨WS,hWS⟩:∃ W,W=((((w1.setCell ⟨p,0,none⟩ (.slice none 0 0)).setCell ⟨p,1,none⟩ (.int .i64 0)).setCell ⟨p,2,none⟩ (.string ⟨#[]⟩)).setCell ⟨p,3,none⟩ (.int .i64 0)):=⟨_,rfl⟩
  have HPS:Hid (Pt B a g bs long w ([(⟨p,0,none⟩,.slice none 0 0),(⟨p,1,none⟩,.int .i64 0),(⟨p,2,none⟩,.string ⟨#[]⟩),(⟨p,3,none⟩,.int .i64 0)]++l) [] WS):=by
   refine HP2.out.store HO.out (p:=p) (j:=0) (List.mem_append_left _ (List.mem_cons_self)) HPW.out (fun x hx=>⟨List.mem_append_right _ hx,fun e=>?_⟩) (by rw[hWS];exact ((((Two.refl _ _ _).setCell 0 _).setCell 1 _).setCell 2 _).setCell 3 _) ?_
   ·have h1:=(HO.out.cells x hx).1
    have h2:=HPW.out;omega
   ·intro x hx
    simp only[List.mem_cons,List.not_mem_nil,or_false]at hx
    rcases hx with rfl | rfl | rfl | rfl <;> exact⟨rfl,by rw[hWS];go_simp⟩
  have HBS:=Lib.hid (HPS.out.below HO.out);have HWS:=Lib.hid hWS;clear hWS;go_wp2_with fail
  try rw[← HWS.out]
  refine (HPS.out.then (fun _ _ _ h=>putAllSt_any [] 0 0 none rfl (by omega) (by simp) (Rd.nil _) h)).mono ?_;rintro e v1 ⟨rfl,HQ1⟩;clear k0;clear k1;clear k2;clear k3;have k0:=HQ1.out.c0;have k1:=HQ1.out.c1;have k2:=HQ1.out.c2;have k3:=HQ1.out.c3;have HBQ1:=Lib.hid (HQ1.out.below HO.out);clear HPS;go_wp2_with fail;refine (HQ1.out.then (fun _ _ _ h=>pnum_any 0 ⟨by omega,by omega⟩ h)).mono ?_;rintro e v2 ⟨rfl,HQ2⟩;clear k0;clear k1;clear k2;clear k3;have k0:=HQ2.out.c0;have k1:=HQ2.out.c1;have k2:=HQ2.out.c2;have k3:=HQ2.out.c3;have HBQ2:=Lib.hid (HQ2.out.below HO.out);clear HQ1;go_wp2_with fail;refine (HQ2.out.then (fun _ _ _ h=>ptext_any ⟨#[]⟩ (by decide) h)).mono ?_;rintro e v3 ⟨rfl,HQ3⟩;clear k0;clear k1;clear k2;clear k3;have k0:=HQ3.out.c0;have k1:=HQ3.out.c1;have k2:=HQ3.out.c2;have k3:=HQ3.out.c3;have HBQ3:=Lib.hid (HQ3.out.below HO.out)
  clear HQ2;go_wp2_with fail;refine (HQ3.out.then (fun _ _ _ h=>pnum_any 0 ⟨by omega,by omega⟩ h)).mono ?_;rintro e v4 ⟨rfl,HQ4⟩;clear k0;clear k1;clear k2;clear k3;have k0:=HQ4.out.c0;have k1:=HQ4.out.c1;have k2:=HQ4.out.c2;have k3:=HQ4.out.c3;have HBQ4:=Lib.hid (HQ4.out.below HO.out);clear HQ3;go_wp2
  go_end0
  refine⟨rfl,?_⟩;have h9:=HQ4.out.sub (l2:=l) (fun x hx=>List.mem_append_right _ hx)
  simpa only [List.nil_append,List.append_assoc,opB] using h9
theorem rightvec_any (x:Nat→Int) (w:World) (z:Bool) (hz:z=true↔MayV x) :
  Calls Tryz.prog 73 #[.agg #[.int .i64 (x 0),.int .i64 (x 1),.int .i64 (x 2),.int .i64 (x 3)]] w fun e w'=>e = .returned (.bool z)∧Below w.heap.size w w':=by
 obtain⟨p,hp⟩:∃ p,p=w.heap.size:=⟨_,rfl⟩;obtain⟨W,hW⟩:∃ W,W=w.alloc (.cells #[.int .i64 (x 0),.int .i64 (x 1),.int .i64 (x 2),.int .i64 (x 3)] 42):=⟨_,rfl⟩
 have HB:Hid (Below w.heap.size w W):=by unfold Hid;rw[hW];exact Dt.box_below _ _ _
 have HZ:=Lib.hid hz;have HW:=Lib.hid hW;clear hz hW;go_enter Tryz.func73,Tryz.ntmps73;go_wp2_with fail;rw[← HW.out]
 cases z with
 | true=>
  refine (fullC_any x W (HZ.out.1 rfl) _ rfl).mono ?_;rintro e w1 ⟨A,c,rfl,_,hb1⟩;have HB1:=Lib.hid (HB.out.trans (hb1.mono HB.out.size));obtain⟨m,hm⟩:∃ m,m=(fullV x).length:=⟨_,rfl⟩;rw[← hm];clear hb1 hm;go_wp2;go_ret;exact⟨rfl,HB1.out⟩
 | false=>
  refine (fullC_bad x W (fun h=>by have:=HZ.out.2 h;cases this)).mono ?_;rintro e w1 ⟨rfl,hb1⟩;have HB1:=Lib.hid (HB.out.trans (hb1.mono HB.out.size));clear hb1;go_wp2;go_ret;exact⟨rfl,HB1.out⟩
theorem putvec_any (x:Nat→Int) (z:Bool) (hz:z=true↔MayV x) (y:Nat→Int) (hy:y=if z then x else fun _=>0) {w:World} {l:List (Addr×Value)} {B a:Nat} {g:Option Nat} {bs:List UInt8} {long:Bool}  (h:OutC w l B a g bs long) :
  Calls Tryz.prog 46 #[.pointer (some ⟨a,0,none⟩),.agg #[.int .i64 (x 0),.int .i64 (x 1),.int .i64 (x 2),.int .i64 (x 3)]] w fun e w'=>e = .returned (.tuple #[])∧Pt B a g bs long w l (vecB y) w':=by
 have HO:=Lib.hid h;have HP:=Lib.hid (Pt.refl h);have HZ:=Lib.hid hz;have HY:=Lib.hid hy;clear hz hy;clear h;obtain⟨p,hp⟩:∃ p,p=w.heap.size:=⟨_,rfl⟩;obtain⟨W,hW⟩:∃ W,W=(w.alloc (.cells #[.int .i64 (x 0),.int .i64 (x 1),.int .i64 (x 2),.int .i64 (x 3)] 42)):=⟨_,rfl⟩
 have hbW:Below w.heap.size w W:=by rw[hW];exact (Below.refl _ _).alloc (Nat.le_refl _) _
 have hszW:W.heap.size=w.heap.size+1:=by rw[hW];simp
 have HP1:Hid (Pt B a g bs long w ([(⟨p,0,none⟩,.int .i64 (x 0)),(⟨p,1,none⟩,.int .i64 (x 1)),(⟨p,2,none⟩,.int .i64 (x 2)),(⟨p,3,none⟩,.int .i64 (x 3))]++l) [] W):=by
  refine HP.out.add hbW ?_;intro x hx;simp only[List.mem_cons,List.not_mem_nil,or_false]at hx
  rcases hx with rfl | rfl | rfl | rfl <;> exact⟨by dsimp only;omega,by dsimp only;omega,by rw[hW];(try rw[hp]);go_simp⟩
 have HBW:=Lib.hid hbW;have HF:Hid (Free p W):=⟨by rw[hW,hp];simp,fun j=>by rw[hW,hp];go_simp⟩
 have hpw:w.heap.size≤p:=by omega
 have HPW:=Lib.hid hpw;have HW:=Lib.hid hW;have Hp:=Lib.hid hp;clear hpw hW hbW hszW HP hp;go_enter Tryz.func46,Tryz.ntmps46;go_wp2_with fail;rw[← HW.out]
 try rw[← Hp.out]
 refine (rightvec_any x W z HZ.out).mono ?_;rintro e w1 ⟨rfl,hb1⟩;have HP2:=Lib.hid (HP1.out.later hb1);have HF2:=Lib.hid (HF.out.later hb1);have HB2:=Lib.hid (HP2.out.below HO.out);clear hb1 HP1 HF
 cases z with
 | true=>
  have hy2:x=y:=by have h:=HY.out;simp at h;exact h.symm
  have HT:=Lib.hid (HZ.out.1 rfl);subst hy2;have k0:=HP2.out.c0;have k1:=HP2.out.c1;have k2:=HP2.out.c2;have k3:=HP2.out.c3;have HL0:=Lib.hid (HP2.out.sub (l2:=l) (fun x hx=>List.mem_append_right _ hx));go_wp2_with fail

  go_loopw [11] (fun i wr=>∃ (k:Nat),i = .int .i64 k∧k≤4∧Hid (Pt B a g bs long w l ((([x 0,x 1,x 2,x 3]:List Int).take k).flatMap numB) wr)) (fun i _=>4-(intOf i).toNat)
  case atStart=>exact⟨0,rfl,by omega,HL0.out⟩
  case round=>
   obtain⟨k,rfl,hk,HP⟩:=hrel
   by_cases hlt:k<4
   ·have hix:=index_vec x k hlt
  
    have h6:I64 (x k):=by have:=HT.out k hlt;unfold MayB at this;exact⟨by omega,by omega⟩
    have HE:Hid (((([x 0,x 1,x 2,x 3]:List Int).take k).flatMap numB)++numB (x k)=(([x 0,x 1,x 2,x 3]:List Int).take (k+1)).flatMap numB):=by
     unfold Hid
     rcases (by omega:k=0∨k=1∨k=2∨k=3)with rfl | rfl | rfl | rfl <;> simp
    go_wp2_with fail;refine (HP.out.then (fun _ _ _ h=>pnum_any (x k) h6 h)).mono ?_;rintro e w2 ⟨rfl,HP2⟩;rw[HE.out]at HP2;go_wp2_with fail;go_roundw
    case rel=>exact⟨k+1,by go_num,by omega,HP2⟩
    case measure=>simp[intOf];omega
   ·have hke:k=4:=by omega
    have HF:Hid (Pt B a g bs long w l (vecB x) wr):=by
     have h1:=HP.out;rw[hke]at h1;exact h1
    clear HP;go_wp2
    go_end0
    exact⟨rfl,HF.out⟩
 | false=>
  have hy2:y=fun _=>0:=by have h:=HY.out;simpa using h
  subst hy2;have k0:=HP2.out.c0;have k1:=HP2.out.c1;have k2:=HP2.out.c2;have k3:=HP2.out.c3;have f0:=HF2.out.2 0;have f1:=HF2.out.2 1;have f2:=HF2.out.2 2;have f3:=HF2.out.2 3;obtain⟨WS,hWS⟩:∃ W,W=((((w1.setCell ⟨p,0,none⟩ (.int .i64 0)).setCell ⟨p,1,none⟩ (.int .i64 0)).setCell ⟨p,2,none⟩ (.int .i64 0)).setCell ⟨p,3,none⟩ (.int .i64 0)):=⟨_,rfl⟩
  have HPS:Hid (Pt B a g bs long w ([(⟨p,0,none⟩,.int .i64 0),(⟨p,1,none⟩,.int .i64 0),(⟨p,2,none⟩,.int .i64 0),(⟨p,3,none⟩,.int .i64 0)]++l) [] WS):=by
   refine HP2.out.store HO.out (p:=p) (j:=0) (List.mem_append_left _ (List.mem_cons_self)) HPW.out (fun x hx=>⟨List.mem_append_right _ hx,fun e=>?_⟩) (by rw[hWS];exact ((((Two.refl _ _ _).setCell 0 _).setCell 1 _).setCell 2 _).setCell 3 _) ?_
   ·have h1:=(HO.out.cells x hx).1
    have h2:=HPW.out;omega
   ·intro x hx
    simp only[List.mem_cons,List.not_mem_nil,or_false]at hx
    rcases hx with rfl | rfl | rfl | rfl <;> exact⟨rfl,by rw[hWS];go_simp⟩
  have HBS:=Lib.hid (HPS.out.below HO.out);have HWS:=Lib.hid hWS;clear hWS;have HL0:=Lib.hid (HPS.out.sub (l2:=l) (fun x hx=>List.mem_append_right _ hx));go_wp2_with fail
  try rw[← HWS.out]
  go_loopw [11] (fun i wr=>∃ (k:Nat),i = .int .i64 k∧k≤4∧Hid (Pt B a g bs long w l ((([0,0,0,0]:List Int).take k).flatMap numB) wr)) (fun i _=>4-(intOf i).toNat)
  case atStart=>exact⟨0,rfl,by omega,HL0.out⟩
  case round=>
   obtain⟨k,rfl,hk,HP⟩:=hrel
   by_cases hlt:k<4
   ·have hix:=index_vec (fun _=>0) k hlt
    try dsimp only at hix
    have h6:I64 (0):=⟨by omega,by omega⟩
    have HE:Hid (((([0,0,0,0]:List Int).take k).flatMap numB)++numB (0)=(([0,0,0,0]:List Int).take (k+1)).flatMap numB):=by
     unfold Hid
     rcases (by omega:k=0∨k=1∨k=2∨k=3)with rfl | rfl | rfl | rfl <;> simp
    go_wp2_with fail;refine (HP.out.then (fun _ _ _ h=>pnum_any (0) h6 h)).mono ?_;rintro e w2 ⟨rfl,HP2⟩;rw[HE.out]at HP2;go_wp2_with fail;go_roundw
    case rel=>exact⟨k+1,by go_num,by omega,HP2⟩
    case measure=>simp[intOf];omega
   ·have hke:k=4:=by omega
    have HF:Hid (Pt B a g bs long w l (vecB (fun _=>0)) wr):=by
     have h1:=HP.out;rw[hke]at h1;exact h1
    clear HP;go_wp2
    go_end0
    exact⟨rfl,HF.out⟩
end Pk
end Go.Proofs.YtcbpgemiffmieaaGreat
namespace Go.Proofs.YtcbpgemiffmieaaGreat
open Go.ChangeShapes Go.WideShapes Go.ChangeAt Go.RowKit
namespace Pk
open Tr Cx Cs Sp Rw Codec
theorem Gt.setc {w wr:World} {l l2:List (Addr×Value)} {F:List Nat} {a s j:Nat} {r:List UInt8} {b:Bool} {u:Value} (h:Gt a w l F r b wr) (haw:a<w.heap.size) (hs:w.heap.size≤s) (hc:∃ v0,((⟨s,j,none⟩:Addr),v0)∈l) (h2:∀ x∈l2,(x∈l∧x.1≠⟨s,j,none⟩)∨x=(⟨s,j,none⟩,u)):Gt a w l2 F r b (wr.setCell ⟨s,j,none⟩ u):=by
 have hb:Below w.heap.size wr (wr.setCell ⟨s,j,none⟩ u):=(Below.refl w.heap.size wr).setCell (p:=⟨s,j,none⟩) hs u;obtain⟨v0,hv⟩:=hc;obtain⟨q1,q2,q3⟩:=h.1.cells _ hv;refine⟨⟨h.1.at_.keepx fun k hk=>hb.block k (by omega),fun x hx=>?_,fun q hq=>⟨(h.1.free q hq).1.set _ _,(h.1.free q hq).2⟩⟩,gb_onw h.2 hb⟩
 rcases h2 x hx with ⟨h3,h4⟩ | rfl
 ·obtain⟨k1,k2,k3⟩:=h.1.cells x h3
  exact⟨by simpa [World.setCell] using k1,(World.cell?_setCell_other wr _ x.1 u h4.symm).trans k2,k3⟩
 ·dsimp only at q1 q2 q3 ⊢
  exact⟨by simpa [World.setCell] using q1,by go_simp,q3⟩
def vf (y:V4):Nat→Int
 | 0=>y.1
 | 1=>y.2.1
 | 2=>y.2.2.1
 | _=>y.2.2.2
def MayP (y:V4):Prop:=MayV (vf y)
theorem may_v4 {y:V4} (h:MayP y):V4R 1099511627776 y:=by
 have m0:MayB y.1:=h 0 (by omega);have m1:MayB y.2.1:=h 1 (by omega);have m2:MayB y.2.2.1:=h 2 (by omega);have m3:MayB y.2.2.2:=h 3 (by omega);unfold MayB at m0 m1 m2 m3;exact⟨⟨by omega,by omega⟩,⟨by omega,by omega⟩,⟨by omega,by omega⟩,⟨by omega,by omega⟩⟩
set_option maxRecDepth 100000 in
set_option maxHeartbeats 4000000 in
theorem getvec_any {w:World} {l:List (Addr×Value)} {F:List Nat} {a:Nat} {bs:List UInt8} {bad:Bool} (h:InC w l F a bs bad) :
  Calls Tryz.prog 31 #[.pointer (some ⟨a,0,none⟩)] w fun e w'=>∃ (y:V4) (r:List UInt8) (b:Bool),e = .returned (.agg #[.int .i64 y.1,.int .i64 y.2.1,.int .i64 y.2.2.1,.int .i64 y.2.2.2])∧Hid (Gt a w l F r b w')∧Hid (Got v4B MayP (0,0,0,0) bs y r b):=by
 have HO:=Lib.hid h;have HG0:=Lib.hid (Gt.refl h);have haw:=h.at_.lt;clear h;obtain⟨p,hp⟩:∃ p,p=w.heap.size:=⟨_,rfl⟩;obtain⟨s,hs⟩:∃ s,s=p+1:=⟨_,rfl⟩;obtain⟨W,hW⟩:∃ W,W=(w.alloc (.cells #[.int .i64 0,.int .i64 0,.int .i64 0,.int .i64 0] 42)).alloc (.cells #[.int .i64 0,.int .i64 0,.int .i64 0,.int .i64 0] 42):=⟨_,rfl⟩
 have HG1:Hid (Gt a w ([(⟨s,0,none⟩,.int .i64 0),(⟨s,1,none⟩,.int .i64 0),(⟨s,2,none⟩,.int .i64 0),(⟨s,3,none⟩,.int .i64 0)]++[(⟨p,0,none⟩,.int .i64 0),(⟨p,1,none⟩,.int .i64 0),(⟨p,2,none⟩,.int .i64 0),(⟨p,3,none⟩,.int .i64 0)]++l) ([s,p]++F) bs bad W):=by
  refine HG0.out.add (by rw[hW];exact ((Below.refl _ _).alloc (Nat.le_refl _) _).alloc (by simp) _) ?_ ?_
  ·intro x hx
   simp only[List.cons_append,List.nil_append,List.mem_cons,List.not_mem_nil,or_false]at hx
   rcases hx with rfl | rfl | rfl | rfl | rfl | rfl | rfl | rfl <;> exact⟨by dsimp only;omega,by rw[hW];simp <;> omega,by rw[hW];(try rw[hs]);rw[hp];go_simp⟩
  ·intro x hx
   simp only[List.mem_cons,List.not_mem_nil,or_false]at hx
   rcases hx with rfl | rfl
   ·exact⟨by omega,by rw[hW,hs,hp];simp,fun j=>by rw[hW,hs,hp];go_simp⟩
   ·exact⟨by omega,by rw[hW,hp];simp <;> omega,fun j=>by rw[hW,hp];go_simp⟩
 have HPW:Hid (w.heap.size≤p):=by unfold Hid;omega
 have HSW:Hid (w.heap.size≤s):=by unfold Hid;omega
 have hsp:¬s=p:=by omega
 have hps:¬p=s:=by omega
 have HW:=Lib.hid hW;have Hp:=Lib.hid hp;have Hs:=Lib.hid hs;clear hp hs hW HG0;go_enter Tryz.func31,Tryz.ntmps31;go_wp2_with fail
 try rw[← HW.out]
 try rw[← Hp.out]
 try rw[← Hs.out]
 go_loopw [5] (fun i wr=>∃ (k:Nat) (y0 y1 y2 y3:Int) (r:List UInt8) (b:Bool),i = .int .i64 k∧k≤4∧Hid (Gt a w ([(⟨s,0,none⟩,.int .i64 y0),(⟨s,1,none⟩,.int .i64 y1),(⟨s,2,none⟩,.int .i64 y2),(⟨s,3,none⟩,.int .i64 y3)]++([(⟨p,0,none⟩,.int .i64 0),(⟨p,1,none⟩,.int .i64 0),(⟨p,2,none⟩,.int .i64 0),(⟨p,3,none⟩,.int .i64 0)]++l)) ([s,p]++F) r b wr)∧Hid (PV 1099511627776 bs (([y0,y1,y2,y3]:List Int).take k) r b)) (fun i _=>4-(intOf i).toNat)
 case atStart=>exact⟨0,0,0,0,0,bs,bad,rfl,by omega,HG1,PV.zero HO.out.at_.none_⟩
 case round=>
  obtain⟨k,y0,y1,y2,y3,r,b,rfl,hk,HG,HV⟩:=hrel
  by_cases hlt:k<4
  ·rcases (by omega:k=0∨k=1∨k=2∨k=3)with rfl | rfl | rfl | rfl
   ·go_wp2_with fail
    refine (gnum_any 1099511627776 (by omega) (by omega) HG.out.1).mono ?_;rintro e w2 ⟨v,r2,b2,rfl,HG2,H2⟩;have HG3:=Lib.hid (HG.out.trans HG2.out);have HV3:Hid (PV 1099511627776 bs (([v,y1,y2,y3]:List Int).take 1) r2 b2):=HV.out.step (by simp) H2.out;have k0:=HG3.out.c0;have f0:=HG3.out.f0.2 0
    have HG4:Hid (Gt a w ([(⟨s,0,none⟩,.int .i64 v),(⟨s,1,none⟩,.int .i64 y1),(⟨s,2,none⟩,.int .i64 y2),(⟨s,3,none⟩,.int .i64 y3)]++([(⟨p,0,none⟩,.int .i64 0),(⟨p,1,none⟩,.int .i64 0),(⟨p,2,none⟩,.int .i64 0),(⟨p,3,none⟩,.int .i64 0)]++l)) ([s,p]++F) r2 b2 (w2.setCell ⟨s,0,none⟩ (.int .i64 v))):=by
     refine HG3.out.setc haw HSW.out ⟨.int .i64 y0,List.mem_append_left _ (by simp)⟩ ?_;intro x hx
     rcases List.mem_append.1 hx with hx | hx
     ·simp only[List.mem_cons,List.not_mem_nil,or_false]at hx
      rcases hx with rfl | rfl | rfl | rfl
      ·exact .inr rfl
      ·exact .inl ⟨List.mem_append_left _ (by simp),by simp⟩
      ·exact .inl ⟨List.mem_append_left _ (by simp),by simp⟩
      ·exact .inl ⟨List.mem_append_left _ (by simp),by simp⟩
     ·refine .inl ⟨List.mem_append_right _ hx,fun e=>?_⟩
      rcases List.mem_append.1 hx with hx | hx
      ·simp only[List.mem_cons,List.not_mem_nil,or_false]at hx
       rcases hx with rfl | rfl | rfl | rfl <;> (dsimp only at e;injection e with e _ _;omega)
      ·have h1:=(HO.out.cells x hx).1
       rw[e]at h1;have h2:=HSW.out;dsimp only at h1;omega
    clear HG HG2 HV H2;go_wp2_with fail;go_roundw
    case rel=>exact⟨0+1,v,y1,y2,y3,r2,b2,by go_num,by omega,HG4,HV3⟩
    case measure=>simp[intOf]
   ·go_wp2_with fail
    refine (gnum_any 1099511627776 (by omega) (by omega) HG.out.1).mono ?_;rintro e w2 ⟨v,r2,b2,rfl,HG2,H2⟩;have HG3:=Lib.hid (HG.out.trans HG2.out);have HV3:Hid (PV 1099511627776 bs (([y0,v,y2,y3]:List Int).take 2) r2 b2):=HV.out.step (by simp) H2.out;have k1:=HG3.out.c1;have f1:=HG3.out.f0.2 1
    have HG4:Hid (Gt a w ([(⟨s,0,none⟩,.int .i64 y0),(⟨s,1,none⟩,.int .i64 v),(⟨s,2,none⟩,.int .i64 y2),(⟨s,3,none⟩,.int .i64 y3)]++([(⟨p,0,none⟩,.int .i64 0),(⟨p,1,none⟩,.int .i64 0),(⟨p,2,none⟩,.int .i64 0),(⟨p,3,none⟩,.int .i64 0)]++l)) ([s,p]++F) r2 b2 (w2.setCell ⟨s,1,none⟩ (.int .i64 v))):=by
     refine HG3.out.setc haw HSW.out ⟨.int .i64 y1,List.mem_append_left _ (by simp)⟩ ?_;intro x hx
     rcases List.mem_append.1 hx with hx | hx
     ·simp only[List.mem_cons,List.not_mem_nil,or_false]at hx
      rcases hx with rfl | rfl | rfl | rfl
      ·exact .inl ⟨List.mem_append_left _ (by simp),by simp⟩
      ·exact .inr rfl
      ·exact .inl ⟨List.mem_append_left _ (by simp),by simp⟩
      ·exact .inl ⟨List.mem_append_left _ (by simp),by simp⟩
     ·refine .inl ⟨List.mem_append_right _ hx,fun e=>?_⟩
      rcases List.mem_append.1 hx with hx | hx
      ·simp only[List.mem_cons,List.not_mem_nil,or_false]at hx
       rcases hx with rfl | rfl | rfl | rfl <;> (dsimp only at e;injection e with e _ _;omega)
      ·have h1:=(HO.out.cells x hx).1
       rw[e]at h1;have h2:=HSW.out;dsimp only at h1;omega
    clear HG HG2 HV H2;go_wp2_with fail;go_roundw
    case rel=>exact⟨1+1,y0,v,y2,y3,r2,b2,by go_num,by omega,HG4,HV3⟩
    case measure=>simp[intOf]
   ·go_wp2_with fail
    refine (gnum_any 1099511627776 (by omega) (by omega) HG.out.1).mono ?_;rintro e w2 ⟨v,r2,b2,rfl,HG2,H2⟩;have HG3:=Lib.hid (HG.out.trans HG2.out);have HV3:Hid (PV 1099511627776 bs (([y0,y1,v,y3]:List Int).take 3) r2 b2):=HV.out.step (by simp) H2.out;have k2:=HG3.out.c2;have f2:=HG3.out.f0.2 2
    have HG4:Hid (Gt a w ([(⟨s,0,none⟩,.int .i64 y0),(⟨s,1,none⟩,.int .i64 y1),(⟨s,2,none⟩,.int .i64 v),(⟨s,3,none⟩,.int .i64 y3)]++([(⟨p,0,none⟩,.int .i64 0),(⟨p,1,none⟩,.int .i64 0),(⟨p,2,none⟩,.int .i64 0),(⟨p,3,none⟩,.int .i64 0)]++l)) ([s,p]++F) r2 b2 (w2.setCell ⟨s,2,none⟩ (.int .i64 v))):=by
     refine HG3.out.setc haw HSW.out ⟨.int .i64 y2,List.mem_append_left _ (by simp)⟩ ?_;intro x hx
     rcases List.mem_append.1 hx with hx | hx
     ·simp only[List.mem_cons,List.not_mem_nil,or_false]at hx
      rcases hx with rfl | rfl | rfl | rfl
      ·exact .inl ⟨List.mem_append_left _ (by simp),by simp⟩
      ·exact .inl ⟨List.mem_append_left _ (by simp),by simp⟩
      ·exact .inr rfl
      ·exact .inl ⟨List.mem_append_left _ (by simp),by simp⟩
     ·refine .inl ⟨List.mem_append_right _ hx,fun e=>?_⟩
      rcases List.mem_append.1 hx with hx | hx
      ·simp only[List.mem_cons,List.not_mem_nil,or_false]at hx
       rcases hx with rfl | rfl | rfl | rfl <;> (dsimp only at e;injection e with e _ _;omega)
      ·have h1:=(HO.out.cells x hx).1
       rw[e]at h1;have h2:=HSW.out;dsimp only at h1;omega
    clear HG HG2 HV H2;go_wp2_with fail;go_roundw
    case rel=>exact⟨2+1,y0,y1,v,y3,r2,b2,by go_num,by omega,HG4,HV3⟩
    case measure=>simp[intOf]
   ·go_wp2_with fail
    refine (gnum_any 1099511627776 (by omega) (by omega) HG.out.1).mono ?_;rintro e w2 ⟨v,r2,b2,rfl,HG2,H2⟩;have HG3:=Lib.hid (HG.out.trans HG2.out);have HV3:Hid (PV 1099511627776 bs (([y0,y1,y2,v]:List Int).take 4) r2 b2):=HV.out.step (by simp) H2.out;have k3:=HG3.out.c3;have f3:=HG3.out.f0.2 3
    have HG4:Hid (Gt a w ([(⟨s,0,none⟩,.int .i64 y0),(⟨s,1,none⟩,.int .i64 y1),(⟨s,2,none⟩,.int .i64 y2),(⟨s,3,none⟩,.int .i64 v)]++([(⟨p,0,none⟩,.int .i64 0),(⟨p,1,none⟩,.int .i64 0),(⟨p,2,none⟩,.int .i64 0),(⟨p,3,none⟩,.int .i64 0)]++l)) ([s,p]++F) r2 b2 (w2.setCell ⟨s,3,none⟩ (.int .i64 v))):=by
     refine HG3.out.setc haw HSW.out ⟨.int .i64 y3,List.mem_append_left _ (by simp)⟩ ?_;intro x hx
     rcases List.mem_append.1 hx with hx | hx
     ·simp only[List.mem_cons,List.not_mem_nil,or_false]at hx
      rcases hx with rfl | rfl | rfl | rfl
      ·exact .inl ⟨List.mem_append_left _ (by simp),by simp⟩
      ·exact .inl ⟨List.mem_append_left _ (by simp),by simp⟩
      ·exact .inl ⟨List.mem_append_left _ (by simp),by simp⟩
      ·exact .inr rfl
     ·refine .inl ⟨List.mem_append_right _ hx,fun e=>?_⟩
      rcases List.mem_append.1 hx with hx | hx
      ·simp only[List.mem_cons,List.not_mem_nil,or_false]at hx
       rcases hx with rfl | rfl | rfl | rfl <;> (dsimp only at e;injection e with e _ _;omega)
      ·have h1:=(HO.out.cells x hx).1
       rw[e]at h1;have h2:=HSW.out;dsimp only at h1;omega
    clear HG HG2 HV H2;go_wp2_with fail;go_roundw
    case rel=>exact⟨3+1,y0,y1,y2,v,r2,b2,by go_num,by omega,HG4,HV3⟩
    case measure=>simp[intOf]
  ·obtain rfl:k=4:=by omega
   have H1:Hid (One v4B (V4R 1099511627776) bs (y0,y1,y2,y3) r b):=by
    have h1:=HV.out;exact PV.all (y:=(y0,y1,y2,y3)) h1
   obtain⟨z,hz⟩:∃ z:Bool,z=true↔MayV (vf (y0,y1,y2,y3)):=⟨@decide _ (Classical.propDecidable _),@decide_eq_true_iff _ (Classical.propDecidable _)⟩;have HC:Hid (Calls Tryz.prog 73 #[.agg #[.int .i64 y0,.int .i64 y1,.int .i64 y2,.int .i64 y3]] wr fun e w'=>e = .returned (.bool z)∧Below wr.heap.size wr w'):=rightvec_any (vf (y0,y1,y2,y3)) wr z hz;have HZ:=Lib.hid hz;have j0:=HG.out.c0;have j1:=HG.out.c1;have j2:=HG.out.c2;have j3:=HG.out.c3;clear HV hlt hz;go_wp2_with fail;refine HC.out.mono ?_;rintro e v1 ⟨rfl,hb1⟩;have HGN:=Lib.hid (HG.out.later hb1);clear HG hb1 HC j0 j1 j2 j3;go_wp2_with fail;refine (gstands_any z HGN.out.1).mono ?_;rintro e v2 ⟨rfl,HG2⟩;have HG3:=Lib.hid (HGN.out.trans HG2.out);obtain⟨ok,hok⟩:∃ k,(z && !b)=k:=⟨_,rfl⟩
   have HS:∀ u,u=(if ok then ((y0,y1,y2,y3):V4)else (0,0,0,0))→Hid (Got v4B MayP (0,0,0,0) bs u (if ok then r else []) (!ok)):=fun u hu=>Got.of pre_v4 H1.out (fun y hy=>may_v4 hy) HZ.out ok hok hu
   rw[hok]at HG3 ⊢;clear HGN HG2 hok
   cases ok with
   | true=>
    have k0:=HG3.out.cell (p:=⟨p,0,none⟩) (v:=.int .i64 0) (by simp);have k1:=HG3.out.cell (p:=⟨p,1,none⟩) (v:=.int .i64 0) (by simp);have k2:=HG3.out.cell (p:=⟨p,2,none⟩) (v:=.int .i64 0) (by simp);have k3:=HG3.out.cell (p:=⟨p,3,none⟩) (v:=.int .i64 0) (by simp);have j0:=HG3.out.cell (p:=⟨s,0,none⟩) (v:=.int .i64 y0) (by simp);have j1:=HG3.out.cell (p:=⟨s,1,none⟩) (v:=.int .i64 y1) (by simp);have j2:=HG3.out.cell (p:=⟨s,2,none⟩) (v:=.int .i64 y2) (by simp);have j3:=HG3.out.cell (p:=⟨s,3,none⟩) (v:=.int .i64 y3) (by simp);have f0:=(HG3.out.1.free p (by simp)).1.2 0;have f1:=(HG3.out.1.free p (by simp)).1.2 1;have f2:=(HG3.out.1.free p (by simp)).1.2 2;have f3:=(HG3.out.1.free p (by simp)).1.2 3;obtain⟨W9,hW9⟩:∃ W,W=((((v2.setCell ⟨p,0,none⟩ (.int .i64 y0)).setCell ⟨p,1,none⟩ (.int .i64 y1)).setCell ⟨p,2,none⟩ (.int .i64 y2)).setCell ⟨p,3,none⟩ (.int .i64 y3)):=⟨_,rfl⟩
    have HB9:Hid (Below w.heap.size v2 W9):=by unfold Hid;rw[hW9];exact (((((Below.refl w.heap.size v2).setCell (p:=⟨p,0,none⟩) HPW.out _).setCell (p:=⟨p,1,none⟩) HPW.out _).setCell (p:=⟨p,2,none⟩) HPW.out _).setCell (p:=⟨p,3,none⟩) HPW.out _)
    have HG9:Hid (Gt a w l F r false W9):=(HG3.out.sub (l2:=l) (F2:=F) (fun x hx=>List.mem_append_right _ (List.mem_append_right _ hx)) (fun x hx=>List.mem_append_right _ hx)).low HO.out HB9.out
    have l0:W9.cell? ⟨p,0,none⟩=some (.int .i64 y0):=by rw[hW9];go_simp
    have l1:W9.cell? ⟨p,1,none⟩=some (.int .i64 y1):=by rw[hW9];go_simp
    have l2:W9.cell? ⟨p,2,none⟩=some (.int .i64 y2):=by rw[hW9];go_simp
    have l3:W9.cell? ⟨p,3,none⟩=some (.int .i64 y3):=by rw[hW9];go_simp
    have HW9:=Lib.hid hW9;clear hW9;have HS1:=HS _ rfl;clear HS;go_wp2;rw[← HW9.out];exact bodyPost_ret (v:=.agg #[.int .i64 y0,.int .i64 y1,.int .i64 y2,.int .i64 y3]) (by simp[results,Tryz.results31,go_sem,l0,l1,l2,l3]) rfl ⟨(y0,y1,y2,y3),r,false,rfl,HG9,HS1⟩
   | false=>
    have k0:=HG3.out.cell (p:=⟨p,0,none⟩) (v:=.int .i64 0) (by simp);have k1:=HG3.out.cell (p:=⟨p,1,none⟩) (v:=.int .i64 0) (by simp);have k2:=HG3.out.cell (p:=⟨p,2,none⟩) (v:=.int .i64 0) (by simp);have k3:=HG3.out.cell (p:=⟨p,3,none⟩) (v:=.int .i64 0) (by simp);have j0:=HG3.out.cell (p:=⟨s,0,none⟩) (v:=.int .i64 y0) (by simp);have j1:=HG3.out.cell (p:=⟨s,1,none⟩) (v:=.int .i64 y1) (by simp);have j2:=HG3.out.cell (p:=⟨s,2,none⟩) (v:=.int .i64 y2) (by simp);have j3:=HG3.out.cell (p:=⟨s,3,none⟩) (v:=.int .i64 y3) (by simp);have f0:=(HG3.out.1.free p (by simp)).1.2 0;have f1:=(HG3.out.1.free p (by simp)).1.2 1;have f2:=(HG3.out.1.free p (by simp)).1.2 2;have f3:=(HG3.out.1.free p (by simp)).1.2 3;obtain⟨W9,hW9⟩:∃ W,W=((((v2.setCell ⟨p,0,none⟩ (.int .i64 0)).setCell ⟨p,1,none⟩ (.int .i64 0)).setCell ⟨p,2,none⟩ (.int .i64 0)).setCell ⟨p,3,none⟩ (.int .i64 0)):=⟨_,rfl⟩
    have HB9:Hid (Below w.heap.size v2 W9):=by unfold Hid;rw[hW9];exact (((((Below.refl w.heap.size v2).setCell (p:=⟨p,0,none⟩) HPW.out _).setCell (p:=⟨p,1,none⟩) HPW.out _).setCell (p:=⟨p,2,none⟩) HPW.out _).setCell (p:=⟨p,3,none⟩) HPW.out _)
    have HG9:Hid (Gt a w l F [] true W9):=(HG3.out.sub (l2:=l) (F2:=F) (fun x hx=>List.mem_append_right _ (List.mem_append_right _ hx)) (fun x hx=>List.mem_append_right _ hx)).low HO.out HB9.out
    have l0:W9.cell? ⟨p,0,none⟩=some (.int .i64 0):=by rw[hW9];go_simp
    have l1:W9.cell? ⟨p,1,none⟩=some (.int .i64 0):=by rw[hW9];go_simp
    have l2:W9.cell? ⟨p,2,none⟩=some (.int .i64 0):=by rw[hW9];go_simp
    have l3:W9.cell? ⟨p,3,none⟩=some (.int .i64 0):=by rw[hW9];go_simp
    have HW9:=Lib.hid hW9;clear hW9;have HS1:=HS _ rfl;clear HS;go_wp2;rw[← HW9.out];exact bodyPost_ret (v:=.agg #[.int .i64 0,.int .i64 0,.int .i64 0,.int .i64 0]) (by simp[results,Tryz.results31,go_sem,l0,l1,l2,l3]) rfl ⟨(0,0,0,0),[],true,rfl,HG9,HS1⟩
end Pk
end Go.Proofs.YtcbpgemiffmieaaGreat
namespace Go.Proofs.YtcbpgemiffmieaaGreat
open Go.ChangeShapes Go.WideShapes Go.ChangeAt Go.RowKit
namespace Pk
open Tr Cx Cs Sp Rw Codec
noncomputable def thB (x:Thg):List UInt8:=
 if x.kd=0 then ctxB (if rightCB x.c then x.c else [])
 else if x.kd=1 then treeB (if rightB 5 x.t then x.t else none_)
 else if x.kd=2 then causB (if rightKB (x.t,x.xs)then (x.t,x.xs)else (none_,[]))
 else if x.kd=3 then opB (if opE x.o=0 then x.o else⟨[],0,⟨#[]⟩,0⟩)
 else vecB (if @decide (MayV (vf x.v)) (Classical.propDecidable _)then vf x.v else fun _=>0)
def Small (x:Thg):Prop:=x.sc.n≤60∧nodes x.t≤40∧x.sx.n≤40∧x.sp.n≤9
def PutP (B a:Nat) (g:Option Nat) (bs:List UInt8) (long:Bool) (l:List (Addr×Value)) (s:List UInt8) (w:World) (e:Ending) (w':World):Prop:=∃ A m c,e = .returned (.slice A m c)∧Hid (s.length=m)∧Hid (Own w' w.heap.size 5 1 A m c (u8s s))∧Hid (Pt B a g bs long w l s w')
set_option maxRecDepth 100000 in
set_option maxHeartbeats 4000000 in
theorem put_any16 (x:Thg) {w:World} {l:List (Addr×Value)} {B a:Nat} {g:Option Nat} {bs:List UInt8} {long:Bool} (hok:ThOk w B x) (hsm:Small x) (h:OutC w l B a g bs long) :
  Calls Tryz.prog 11 #[.pointer (some ⟨a,0,none⟩),.agg #[.int .u8 x.kd,.slice x.sc.A x.sc.n x.sc.c,.slice x.se.A x.se.n x.se.c,.slice x.sk.A x.sk.n x.sk.c,.slice x.sx.A x.sx.n x.sx.c,.slice x.sp.A x.sp.n x.sp.c,.int .i64 x.o.act,.string x.o.s,.int .i64 x.o.n,.int .i64 x.v.1,.int .i64 x.v.2.1,.int .i64 x.v.2.2.1,.int .i64 x.v.2.2.2]] w (PutP B a g bs long l (thB x) w):=by
 have HO:=Lib.hid h;have HOK:=Lib.hid hok;have HSM:=Lib.hid hsm;have HP:=Lib.hid (Pt.refl h);clear h hok hsm;obtain⟨q,hq⟩:∃ p,p=w.heap.size:=⟨_,rfl⟩;obtain⟨W,hW⟩:∃ W,W=w.alloc (.cells #[.int .u8 x.kd,.slice x.sc.A x.sc.n x.sc.c,.slice x.se.A x.se.n x.se.c,.slice x.sk.A x.sk.n x.sk.c,.slice x.sx.A x.sx.n x.sx.c,.slice x.sp.A x.sp.n x.sp.c,.int .i64 x.o.act,.string x.o.s,.int .i64 x.o.n,.int .i64 x.v.1,.int .i64 x.v.2.1,.int .i64 x.v.2.2.1,.int .i64 x.v.2.2.2] 44):=⟨_,rfl⟩
 have hbW:Below w.heap.size w W:=by rw[hW];exact Dt.box_below _ _ _
 have HP1:Hid (Pt B a g bs long w ([(⟨q,0,none⟩,.int .u8 x.kd),(⟨q,1,none⟩,.slice x.sc.A x.sc.n x.sc.c),(⟨q,2,none⟩,.slice x.se.A x.se.n x.se.c),(⟨q,3,none⟩,.slice x.sk.A x.sk.n x.sk.c),(⟨q,4,none⟩,.slice x.sx.A x.sx.n x.sx.c),(⟨q,5,none⟩,.slice x.sp.A x.sp.n x.sp.c),(⟨q,6,none⟩,.int .i64 x.o.act),(⟨q,7,none⟩,.string x.o.s),(⟨q,8,none⟩,.int .i64 x.o.n),(⟨q,9,none⟩,.int .i64 x.v.1),(⟨q,10,none⟩,.int .i64 x.v.2.1),(⟨q,11,none⟩,.int .i64 x.v.2.2.1),(⟨q,12,none⟩,.int .i64 x.v.2.2.2)]++l) [] W):=by
  refine HP.out.add hbW ?_;intro y hy;simp only[List.mem_cons,List.not_mem_nil,or_false]at hy
  rcases hy with rfl | rfl | rfl | rfl | rfl | rfl | rfl | rfl | rfl | rfl | rfl | rfl | rfl <;> exact⟨by dsimp only;omega,by rw[hW];simp <;> omega,by rw[hW,hq];go_simp⟩
 have HO1:=Lib.hid (HOK.out.below (HP1.out.below HO.out));have HW:=Lib.hid hW;have Hq:=Lib.hid hq;clear hW hq hbW HP
 by_cases f0:x.kd=0
 ·obtain⟨z,hz⟩:∃ z,rightCB x.c=z:=⟨_,rfl⟩
  obtain⟨u,hu⟩:∃ u,u=(if z then x.c else []):=⟨_,rfl⟩
  have HSB:Hid (thB x=ctxB u):=by unfold Hid thB;rw[if_pos f0,hz,hu]
  have HZ:=Lib.hid hz;have HU:=Lib.hid hu
  have g0:(x.kd==0)=true:=by rw[beq_iff_eq];exact f0
  clear hz hu f0;go_enter Tryz.func11,Tryz.ntmps11;go_wp2_with fail;rw[← HW.out]
  try rw[← Hq.out]
  refine (HP1.out.then (fun _ _ _ h=>putctx_any x.c x.sc.n x.sc.c x.sc.A z HZ.out u HU.out HOK.out.lc (by have:=HSM.out.1;omega) HO1.out.rc h)).mono ?_;rintro e w1 ⟨rfl,HP2⟩;rw[List.nil_append]at HP2;have HO2:=Lib.hid (HOK.out.below (HP2.out.below HO.out));have HBW:Hid (B≤w1.heap.size):=Nat.le_trans HO.out.bw (HP2.out.below HO.out).size;have HSW:Hid (w.heap.size≤w1.heap.size):=(HP2.out.below HO.out).size;have k0:=HP2.out.cell (p:=⟨q,0,none⟩) (v:=.int .u8 x.kd) (by simp);have k1:=HP2.out.cell (p:=⟨q,1,none⟩) (v:=.slice x.sc.A x.sc.n x.sc.c) (by simp);have k2:=HP2.out.cell (p:=⟨q,2,none⟩) (v:=.slice x.se.A x.se.n x.se.c) (by simp);have k3:=HP2.out.cell (p:=⟨q,3,none⟩) (v:=.slice x.sk.A x.sk.n x.sk.c) (by simp);have k4:=HP2.out.cell (p:=⟨q,4,none⟩) (v:=.slice x.sx.A x.sx.n x.sx.c) (by simp);have k5:=HP2.out.cell (p:=⟨q,5,none⟩) (v:=.slice x.sp.A x.sp.n x.sp.c) (by simp)
  have k6:=HP2.out.cell (p:=⟨q,6,none⟩) (v:=.int .i64 x.o.act) (by simp);have k7:=HP2.out.cell (p:=⟨q,7,none⟩) (v:=.string x.o.s) (by simp);have k8:=HP2.out.cell (p:=⟨q,8,none⟩) (v:=.int .i64 x.o.n) (by simp);have k9:=HP2.out.cell (p:=⟨q,9,none⟩) (v:=.int .i64 x.v.1) (by simp);have k10:=HP2.out.cell (p:=⟨q,10,none⟩) (v:=.int .i64 x.v.2.1) (by simp);have k11:=HP2.out.cell (p:=⟨q,11,none⟩) (v:=.int .i64 x.v.2.2.1) (by simp);have k12:=HP2.out.cell (p:=⟨q,12,none⟩) (v:=.int .i64 x.v.2.2.2) (by simp);clear HP1 HO1;go_wp2_with fail;refine (ctxP_any x.c x.sc.n x.sc.A x.sc.c w1 z HZ.out u HU.out HOK.out.lc (by have:=HSM.out.1;omega) (HO2.out.rc.more HBW.out)).mono ?_;unfold NewRow;rw[← HSB.out];obtain⟨m,hm⟩:∃ m,(thB x).length=m:=⟨_,rfl⟩;rw[hm];have HM:=Lib.hid hm;rintro e w2 ⟨A9,c9,rfl,ho9,hb9⟩;have HOW:=Lib.hid (ho9.mono HSW.out)
  have HP3:Hid (Pt B a g bs long w l (thB x) w2):=by
   have h1:=(HP2.out.sub (l2:=l) (fun y hy=>List.mem_append_right _ hy)).later hb9;rw[← HSB.out]at h1;exact h1
  clear ho9 hb9 hm k0 k1 k2 k3 k4 k5 k6 k7 k8 k9 k10 k11 k12;go_wp2;go_ret;exact⟨A9,m,c9,rfl,HM,HOW,HP3⟩
 by_cases f1:x.kd=1
 ·obtain⟨z,hz⟩:∃ z,rightB 5 x.t=z:=⟨_,rfl⟩
  obtain⟨u,hu⟩:∃ u,u=(if z then x.t else none_):=⟨_,rfl⟩
  have HSB:Hid (thB x=treeB u):=by unfold Hid thB;rw[if_neg (by omega),if_pos f1,hz,hu]
  have HZ:=Lib.hid hz;have HU:=Lib.hid hu
  have g0:(x.kd==0)=false:=by rw[beq_eq_false_iff_ne];omega
  have g1:(x.kd==1)=true:=by rw[beq_iff_eq];exact f1
  clear hz hu f0 f1;go_enter Tryz.func11,Tryz.ntmps11;go_wp2_with fail;rw[← HW.out]
  try rw[← Hq.out]
  refine (HP1.out.then (fun _ _ _ h=>puttree_any x.t x.se.A x.sk.A x.se.n x.sk.n x.se.c x.sk.c z HZ.out u HU.out HOK.out.lt (by have:=HSM.out.2.1;omega) HO1.out.rt h)).mono ?_;rintro e w1 ⟨rfl,HP2⟩;rw[List.nil_append]at HP2;have HO2:=Lib.hid (HOK.out.below (HP2.out.below HO.out));have HBW:Hid (B≤w1.heap.size):=Nat.le_trans HO.out.bw (HP2.out.below HO.out).size;have HSW:Hid (w.heap.size≤w1.heap.size):=(HP2.out.below HO.out).size;have k0:=HP2.out.cell (p:=⟨q,0,none⟩) (v:=.int .u8 x.kd) (by simp);have k1:=HP2.out.cell (p:=⟨q,1,none⟩) (v:=.slice x.sc.A x.sc.n x.sc.c) (by simp);have k2:=HP2.out.cell (p:=⟨q,2,none⟩) (v:=.slice x.se.A x.se.n x.se.c) (by simp);have k3:=HP2.out.cell (p:=⟨q,3,none⟩) (v:=.slice x.sk.A x.sk.n x.sk.c) (by simp);have k4:=HP2.out.cell (p:=⟨q,4,none⟩) (v:=.slice x.sx.A x.sx.n x.sx.c) (by simp);have k5:=HP2.out.cell (p:=⟨q,5,none⟩) (v:=.slice x.sp.A x.sp.n x.sp.c) (by simp)
  have k6:=HP2.out.cell (p:=⟨q,6,none⟩) (v:=.int .i64 x.o.act) (by simp);have k7:=HP2.out.cell (p:=⟨q,7,none⟩) (v:=.string x.o.s) (by simp);have k8:=HP2.out.cell (p:=⟨q,8,none⟩) (v:=.int .i64 x.o.n) (by simp);have k9:=HP2.out.cell (p:=⟨q,9,none⟩) (v:=.int .i64 x.v.1) (by simp);have k10:=HP2.out.cell (p:=⟨q,10,none⟩) (v:=.int .i64 x.v.2.1) (by simp);have k11:=HP2.out.cell (p:=⟨q,11,none⟩) (v:=.int .i64 x.v.2.2.1) (by simp);have k12:=HP2.out.cell (p:=⟨q,12,none⟩) (v:=.int .i64 x.v.2.2.2) (by simp);clear HP1 HO1;go_wp2_with fail;refine (treeP_any x.t x.se.A x.sk.A x.se.n x.sk.n x.se.c x.sk.c w1 z HZ.out u HU.out HOK.out.lt (by have:=HSM.out.2.1;omega) (RdT.more HBW.out _ HO2.out.rt)).mono ?_;unfold NewRow;rw[← HSB.out];obtain⟨m,hm⟩:∃ m,(thB x).length=m:=⟨_,rfl⟩;rw[hm];have HM:=Lib.hid hm;rintro e w2 ⟨A9,c9,rfl,ho9,hb9⟩
  have HOW:=Lib.hid (ho9.mono HSW.out)
  have HP3:Hid (Pt B a g bs long w l (thB x) w2):=by
   have h1:=(HP2.out.sub (l2:=l) (fun y hy=>List.mem_append_right _ hy)).later hb9;rw[← HSB.out]at h1;exact h1
  clear ho9 hb9 hm k0 k1 k2 k3 k4 k5 k6 k7 k8 k9 k10 k11 k12;go_wp2;go_ret;exact⟨A9,m,c9,rfl,HM,HOW,HP3⟩
 by_cases f2:x.kd=2
 ·obtain⟨z,hz⟩:∃ z,rightKB (x.t,x.xs)=z:=⟨_,rfl⟩
  obtain⟨u,hu⟩:∃ u,u=(if z then (x.t,x.xs)else (none_,[])):=⟨_,rfl⟩
  have HSB:Hid (thB x=causB u):=by unfold Hid thB;rw[if_neg (by omega),if_neg (by omega),if_pos f2,hz,hu]
  have HZ:=Lib.hid hz;have HU:=Lib.hid hu
  have g0:(x.kd==0)=false:=by rw[beq_eq_false_iff_ne];omega
  have g1:(x.kd==1)=false:=by rw[beq_eq_false_iff_ne];omega
  have g2:(x.kd==2)=true:=by rw[beq_iff_eq];exact f2
  clear hz hu f0 f1 f2;go_enter Tryz.func11,Tryz.ntmps11;go_wp2_with fail;rw[← HW.out]
  try rw[← Hq.out]
  refine (HP1.out.then (fun _ _ _ h=>putcaus_any x.t x.xs x.se.A x.sk.A x.sx.A x.se.n x.sk.n x.se.c x.sk.c x.sx.n x.sx.c z HZ.out u HU.out (by have:=HSM.out.2.1;omega) HOK.out.lx (by have:=HSM.out.2.2.1;omega) HO1.out.rt HO1.out.rx h)).mono ?_;rintro e w1 ⟨rfl,HP2⟩;rw[List.nil_append]at HP2;have HO2:=Lib.hid (HOK.out.below (HP2.out.below HO.out));have HBW:Hid (B≤w1.heap.size):=Nat.le_trans HO.out.bw (HP2.out.below HO.out).size;have HSW:Hid (w.heap.size≤w1.heap.size):=(HP2.out.below HO.out).size;have k0:=HP2.out.cell (p:=⟨q,0,none⟩) (v:=.int .u8 x.kd) (by simp);have k1:=HP2.out.cell (p:=⟨q,1,none⟩) (v:=.slice x.sc.A x.sc.n x.sc.c) (by simp);have k2:=HP2.out.cell (p:=⟨q,2,none⟩) (v:=.slice x.se.A x.se.n x.se.c) (by simp);have k3:=HP2.out.cell (p:=⟨q,3,none⟩) (v:=.slice x.sk.A x.sk.n x.sk.c) (by simp);have k4:=HP2.out.cell (p:=⟨q,4,none⟩) (v:=.slice x.sx.A x.sx.n x.sx.c) (by simp)
  have k5:=HP2.out.cell (p:=⟨q,5,none⟩) (v:=.slice x.sp.A x.sp.n x.sp.c) (by simp);have k6:=HP2.out.cell (p:=⟨q,6,none⟩) (v:=.int .i64 x.o.act) (by simp);have k7:=HP2.out.cell (p:=⟨q,7,none⟩) (v:=.string x.o.s) (by simp);have k8:=HP2.out.cell (p:=⟨q,8,none⟩) (v:=.int .i64 x.o.n) (by simp);have k9:=HP2.out.cell (p:=⟨q,9,none⟩) (v:=.int .i64 x.v.1) (by simp);have k10:=HP2.out.cell (p:=⟨q,10,none⟩) (v:=.int .i64 x.v.2.1) (by simp);have k11:=HP2.out.cell (p:=⟨q,11,none⟩) (v:=.int .i64 x.v.2.2.1) (by simp);have k12:=HP2.out.cell (p:=⟨q,12,none⟩) (v:=.int .i64 x.v.2.2.2) (by simp);clear HP1 HO1;go_wp2_with fail;refine (causP_any x.t x.xs x.se.A x.sk.A x.sx.A x.se.n x.sk.n x.se.c x.sk.c x.sx.n x.sx.c w1 z HZ.out u HU.out (by have:=HSM.out.2.1;omega) HOK.out.lx (by have:=HSM.out.2.2.1;omega) (RdT.more HBW.out _ HO2.out.rt) (HO2.out.rx.more HBW.out)).mono ?_
  unfold NewRow;rw[← HSB.out];obtain⟨m,hm⟩:∃ m,(thB x).length=m:=⟨_,rfl⟩;rw[hm];have HM:=Lib.hid hm;rintro e w2 ⟨A9,c9,rfl,ho9,hb9⟩;have HOW:=Lib.hid (ho9.mono HSW.out)
  have HP3:Hid (Pt B a g bs long w l (thB x) w2):=by
   have h1:=(HP2.out.sub (l2:=l) (fun y hy=>List.mem_append_right _ hy)).later hb9;rw[← HSB.out]at h1;exact h1
  clear ho9 hb9 hm k0 k1 k2 k3 k4 k5 k6 k7 k8 k9 k10 k11 k12;go_wp2;go_ret;exact⟨A9,m,c9,rfl,HM,HOW,HP3⟩
 by_cases f3:x.kd=3
 ·obtain⟨y,hy⟩:∃ y,opE x.o=y:=⟨_,rfl⟩
  obtain⟨z,hz⟩:∃ z,decide (opE x.o=0)=z:=⟨_,rfl⟩
  obtain⟨u,hu⟩:∃ u:OpM,u=(if z then x.o else⟨[],0,⟨#[]⟩,0⟩):=⟨_,rfl⟩
  have hu2:u=(if y=0 then x.o else⟨[],0,⟨#[]⟩,0⟩):=by rw[hu,← hz,hy];by_cases h:y=0 <;> simp[h]
  have HY:=Lib.hid hy;have HU2:=Lib.hid hu2
  have HSB:Hid (thB x=opB u):=by unfold Hid thB;rw[if_neg (by omega),if_neg (by omega),if_neg (by omega),if_pos f3,hy,hu2]
  clear hy hu2;have HZ:=Lib.hid hz;have HU:=Lib.hid hu
  have g0:(x.kd==0)=false:=by rw[beq_eq_false_iff_ne];omega
  have g1:(x.kd==1)=false:=by rw[beq_eq_false_iff_ne];omega
  have g2:(x.kd==2)=false:=by rw[beq_eq_false_iff_ne];omega
  have g3:(x.kd==3)=true:=by rw[beq_iff_eq];exact f3
  clear hz hu f0 f1 f2 f3;go_enter Tryz.func11,Tryz.ntmps11;go_wp2_with fail;rw[← HW.out]
  try rw[← Hq.out]
  refine (HP1.out.then (fun _ _ _ h=>putop_any x.o.path x.o.act x.o.s x.o.n x.sp.A x.sp.n x.sp.c z HZ.out u HU.out (by have:=HSM.out.2.2.2;omega) HO1.out.rp h)).mono ?_;rintro e w1 ⟨rfl,HP2⟩;rw[List.nil_append]at HP2;have HO2:=Lib.hid (HOK.out.below (HP2.out.below HO.out));have HBW:Hid (B≤w1.heap.size):=Nat.le_trans HO.out.bw (HP2.out.below HO.out).size;have HSW:Hid (w.heap.size≤w1.heap.size):=(HP2.out.below HO.out).size;have k0:=HP2.out.cell (p:=⟨q,0,none⟩) (v:=.int .u8 x.kd) (by simp);have k1:=HP2.out.cell (p:=⟨q,1,none⟩) (v:=.slice x.sc.A x.sc.n x.sc.c) (by simp);have k2:=HP2.out.cell (p:=⟨q,2,none⟩) (v:=.slice x.se.A x.se.n x.se.c) (by simp);have k3:=HP2.out.cell (p:=⟨q,3,none⟩) (v:=.slice x.sk.A x.sk.n x.sk.c) (by simp);have k4:=HP2.out.cell (p:=⟨q,4,none⟩) (v:=.slice x.sx.A x.sx.n x.sx.c) (by simp);have k5:=HP2.out.cell (p:=⟨q,5,none⟩) (v:=.slice x.sp.A x.sp.n x.sp.c) (by simp)
  have k6:=HP2.out.cell (p:=⟨q,6,none⟩) (v:=.int .i64 x.o.act) (by simp);have k7:=HP2.out.cell (p:=⟨q,7,none⟩) (v:=.string x.o.s) (by simp);have k8:=HP2.out.cell (p:=⟨q,8,none⟩) (v:=.int .i64 x.o.n) (by simp);have k9:=HP2.out.cell (p:=⟨q,9,none⟩) (v:=.int .i64 x.v.1) (by simp);have k10:=HP2.out.cell (p:=⟨q,10,none⟩) (v:=.int .i64 x.v.2.1) (by simp);have k11:=HP2.out.cell (p:=⟨q,11,none⟩) (v:=.int .i64 x.v.2.2.1) (by simp);have k12:=HP2.out.cell (p:=⟨q,12,none⟩) (v:=.int .i64 x.v.2.2.2) (by simp);clear HP1 HO1;go_wp2_with fail;refine (opP_any x.o.path x.o.act x.o.s x.o.n x.sp.A x.sp.n x.sp.c w1 y HY.out u HU2.out (by have:=HSM.out.2.2.2;omega) (HO2.out.rp.more HBW.out)).mono ?_;unfold NewRow;rw[← HSB.out];obtain⟨m,hm⟩:∃ m,(thB x).length=m:=⟨_,rfl⟩;rw[hm];have HM:=Lib.hid hm;rintro e w2 ⟨A9,c9,rfl,ho9,hb9⟩
  have HOW:=Lib.hid (ho9.mono HSW.out)
  have HP3:Hid (Pt B a g bs long w l (thB x) w2):=by
   have h1:=(HP2.out.sub (l2:=l) (fun y hy=>List.mem_append_right _ hy)).later hb9;rw[← HSB.out]at h1;exact h1
  clear ho9 hb9 hm k0 k1 k2 k3 k4 k5 k6 k7 k8 k9 k10 k11 k12;go_wp2;go_ret;exact⟨A9,m,c9,rfl,HM,HOW,HP3⟩
 obtain⟨z,hz⟩:∃ z:Bool,@decide (MayV (vf x.v)) (Classical.propDecidable _)=z:=⟨_,rfl⟩
 have hz2:z=true↔MayV (vf x.v):=by rw[← hz];exact @decide_eq_true_iff _ (Classical.propDecidable _)
 have HZ2:=Lib.hid hz2
 obtain⟨u,hu⟩:∃ u,u=(if z then vf x.v else fun _=>0):=⟨_,rfl⟩
 have HSB:Hid (thB x=vecB u):=by unfold Hid thB;rw[if_neg f0,if_neg f1,if_neg f2,if_neg f3,hz,hu]
 clear hz2;have HZ:=Lib.hid hz;have HU:=Lib.hid hu
 have g0:(x.kd==0)=false:=by rw[beq_eq_false_iff_ne];omega
 have g1:(x.kd==1)=false:=by rw[beq_eq_false_iff_ne];omega
 have g2:(x.kd==2)=false:=by rw[beq_eq_false_iff_ne];omega
 have g3:(x.kd==3)=false:=by rw[beq_eq_false_iff_ne];omega
 clear hz hu f0 f1 f2 f3;go_enter Tryz.func11,Tryz.ntmps11;go_wp2_with fail;rw[← HW.out]
 try rw[← Hq.out]
 refine (HP1.out.then (fun _ _ _ h=>putvec_any (vf x.v) z HZ2.out u HU.out h)).mono ?_;rintro e w1 ⟨rfl,HP2⟩;rw[List.nil_append]at HP2;have HO2:=Lib.hid (HOK.out.below (HP2.out.below HO.out));have HBW:Hid (B≤w1.heap.size):=Nat.le_trans HO.out.bw (HP2.out.below HO.out).size;have HSW:Hid (w.heap.size≤w1.heap.size):=(HP2.out.below HO.out).size;have k0:=HP2.out.cell (p:=⟨q,0,none⟩) (v:=.int .u8 x.kd) (by simp);have k1:=HP2.out.cell (p:=⟨q,1,none⟩) (v:=.slice x.sc.A x.sc.n x.sc.c) (by simp);have k2:=HP2.out.cell (p:=⟨q,2,none⟩) (v:=.slice x.se.A x.se.n x.se.c) (by simp);have k3:=HP2.out.cell (p:=⟨q,3,none⟩) (v:=.slice x.sk.A x.sk.n x.sk.c) (by simp);have k4:=HP2.out.cell (p:=⟨q,4,none⟩) (v:=.slice x.sx.A x.sx.n x.sx.c) (by simp);have k5:=HP2.out.cell (p:=⟨q,5,none⟩) (v:=.slice x.sp.A x.sp.n x.sp.c) (by simp);have k6:=HP2.out.cell (p:=⟨q,6,none⟩) (v:=.int .i64 x.o.act) (by simp)
 have k7:=HP2.out.cell (p:=⟨q,7,none⟩) (v:=.string x.o.s) (by simp);have k8:=HP2.out.cell (p:=⟨q,8,none⟩) (v:=.int .i64 x.o.n) (by simp);have k9:=HP2.out.cell (p:=⟨q,9,none⟩) (v:=.int .i64 x.v.1) (by simp);have k10:=HP2.out.cell (p:=⟨q,10,none⟩) (v:=.int .i64 x.v.2.1) (by simp);have k11:=HP2.out.cell (p:=⟨q,11,none⟩) (v:=.int .i64 x.v.2.2.1) (by simp);have k12:=HP2.out.cell (p:=⟨q,12,none⟩) (v:=.int .i64 x.v.2.2.2) (by simp);clear HP1 HO1;go_wp2_with fail;refine (vecP_any (vf x.v) w1 z HZ2.out u HU.out).mono ?_;unfold NewRow;rw[← HSB.out];obtain⟨m,hm⟩:∃ m,(thB x).length=m:=⟨_,rfl⟩;rw[hm];have HM:=Lib.hid hm;rintro e w2 ⟨A9,c9,rfl,ho9,hb9⟩;have HOW:=Lib.hid (ho9.mono HSW.out)
 have HP3:Hid (Pt B a g bs long w l (thB x) w2):=by
  have h1:=(HP2.out.sub (l2:=l) (fun y hy=>List.mem_append_right _ hy)).later hb9;rw[← HSB.out]at h1;exact h1
 clear ho9 hb9 hm k0 k1 k2 k3 k4 k5 k6 k7 k8 k9 k10 k11 k12;go_wp2;go_ret;exact⟨A9,m,c9,rfl,HM,HOW,HP3⟩
end Pk
end Go.Proofs.YtcbpgemiffmieaaGreat
namespace Go.Proofs.YtcbpgemiffmieaaGreat
open Go.ChangeShapes Go.WideShapes Go.ChangeAt Go.RowKit
namespace Pk
open Tr Cx Cs Sp Rw Codec
theorem op_le2 {o:OpM} (h:OpI o):(opB o).length≤200:=by
 obtain⟨h1,h2,h3,h4,h5⟩:=h;unfold opB listB;have g1:=num_le (v:=o.path.length) ⟨by omega,by omega⟩
 have g2:=flat_le (f:=txtB) (m:=40) (l:=o.path) fun k hk=>by have:=h2 k hk;have:=txt_le (s:=k) (by omega);omega
 have g3:=num_le h3;have g4:=txt_le (s:=o.s) (by omega);have g5:=num_le h5;simp only[List.length_append];omega
theorem th_le {w:World} {B:Nat} {x:Thg} (h:ThOk w B x) (hs:Small x):(thB x).length≤5000:=by
 obtain⟨h1,h2,h3,h4⟩:=hs;have l1:=h.lc;have l2:=h.lx
 have z1:(treeB none_).length≤20:=by
  have h9:=tree_le none_ (RightT.none (d:=4)) (by simp[none_,nodes_mk])
  have h8:nodes none_=0:=by simp[none_,nodes_mk]
  omega
 have z2:(ctxB []).length≤10:=ctx_le (c:=[]) Cs.right_noneC (by simp);unfold thB
 split
 ·split
  ·rename_i hr
   have:=ctx_le (of_rightCB hr) (by omega);omega
  ·omega
 ·split
  ·split
   ·rename_i hr
    have:=tree_le x.t (rightB_iff.1 hr) (by omega);omega
   ·omega
  ·split
   ·split
    ·rename_i hr
     have hk:=rightKB_iff.1 hr;have g1:=tree_le x.t hk.tree (by omega);have g2:=ctx_le hk.ctx (by show x.xs.length≤_;omega);unfold causB;rw[List.length_append];dsimp only at g2 ⊢;omega
    ·unfold causB
     rw[List.length_append];dsimp only;omega
   ·split
    ·split
     ·rename_i hr
      have:=op_le2 (op_ok (opE_zero.1 hr));omega
     ·have:=op_le2 op_zero
      omega
    ·unfold vecB
     refine Nat.le_trans (nums_le fun v hv=>?_) (by simp)
     split at hv
     ·rename_i hr
      have hm:=@of_decide_eq_true _ (Classical.propDecidable _) hr;have m0:=hm 0 (by omega);have m1:=hm 1 (by omega);have m2:=hm 2 (by omega);have m3:=hm 3 (by omega);unfold MayB at m0 m1 m2 m3;simp only[List.mem_cons,List.not_mem_nil,or_false]at hv
      rcases hv with rfl | rfl | rfl | rfl <;> exact⟨by omega,by omega⟩
     ·simp at hv
      rw[hv];exact⟨by omega,by omega⟩
theorem out_step {w w2:World} {l:List (Addr×Value)} {B a:Nat} {g:Option Nat} {acc s:List UInt8} (hpt:Pt B a g acc false w l s w2) (h6:(acc++s).length≤60000):∃ g',OutC w2 l B a g' (acc++s) false∧Two a g w w2∧Fresh g g' w:=by
 obtain⟨g',h1,h2,h3⟩:=hpt
 have e1:Codec.outB acc false s=acc++s:=by unfold Codec.outB;rw[if_neg (by rw[List.length_append]at h6;simp;omega)]
 have e2:Codec.outL acc false s=false:=by unfold Codec.outL;rw[List.length_append]at h6;simp;omega
 rw[e1,e2]at h1;exact⟨g',h1,h2,h3⟩
def Apart (v:Value) (a:Nat) (g:Option Nat):Prop:=∀ z,v.ownBlock=some z→z≠a∧g≠some z
theorem puts_step {wr w2:World} {B a:Nat} {g:Option Nat} {acc s:List UInt8} {v:Value} (hoc:OutC wr [] B a g acc false) (hrow:wr.ownsRow B 5 1 v acc.length (u8s acc)) (hne:Apart v a g) (hpt:Pt B a g acc false wr [] s w2) {A:Option Addr} {m c:Nat} (hm:s.length=m) (hs:Own w2 wr.heap.size 5 1 A m c (u8s s)) (h6:(acc++s).length≤60000) :
  ∃ v' w' g',Hid ((Builtin.append_ #[25,25] 25 #[v,.slice A m c]).run Tryz.prog w2 = .ok v' w')∧Hid (OutC w' [] B a g' (acc++s) false)∧Hid (w'.ownsRow B 5 1 v' (acc++s).length (u8s (acc++s)))∧Hid (Apart v' a g')∧Hid (Below B wr w'):=by
 obtain⟨g2,ho2,ht2,hf2⟩:=out_step hpt h6;have hB:B≤w2.heap.size:=ho2.bw;have hr2:=ownsRow_two hrow ht2 fun z hz=>⟨(hne z hz).1,fun e=>(hne z hz).2 e.symm⟩
 have hne2:Apart v a g2:=fun z hz=>⟨(hne z hz).1,fun e=>by
  have hlt:=(hrow.lt z hz).2
  rcases hf2 with rfl | rfl | ⟨q,rfl,hq⟩
  ·cases e
  ·exact (hne z hz).2 e
  ·injection e with e
   omega⟩
 have hb2:Below B wr w2:=ht2.below hoc.ba hoc.bg hoc.bw;obtain⟨i0,hi0,hz0,hz1,hz2⟩:=info_parts8
 have hl:acc.length+m≤60000:=by rw[List.length_append,hm]at h6;exact h6
 obtain⟨v',w',h1,h2,h3,h4⟩:=run_app (P:=Tryz.prog) w2 B 25 25 5 i0 _ 1 1 Tryz.underlying25 hi0 hz0 hz1 hz2 rfl (by omega) hr2 hs.rd (by omega) (by omega) hB;have ha2:=ho2.at_.lt
 have hoc':OutC w' [] B a g2 (acc++s) false:=⟨ho2.at_.keep fun k hk=>by
  rcases hk with rfl | hk
  ·exact h3.block _ ha2 fun e=>(hne2 _ e.symm).1 rfl
  ·exact h3.block _ (ho2.at_.glt hk) fun e=>(hne2 _ e.symm).2 hk,ho2.ba,ho2.bg,by simp⟩
 refine⟨v',w',g2,h1,hoc',?_,fun z hz=>?_,hb2.grown h3 hB (fun k hk=>(hr2.lt k hk).1)⟩
 ·unfold Hid
  rw[u8s_append,List.length_append,hm];exact h2
 ·rcases h4 with e | e
  ·rw[e]at hz;exact hne2 z hz
  ·rw[e]at hz
   injection hz with hz;refine⟨by omega,fun e2=>?_⟩;have:=ho2.at_.glt e2;omega
end Pk
end Go.Proofs.YtcbpgemiffmieaaGreat
namespace Go.Proofs.YtcbpgemiffmieaaGreat
open Go.ChangeShapes Go.WideShapes Go.ChangeAt Go.RowKit
namespace Pk
open Tr Cx Cs Sp Rw Codec
set_option maxRecDepth 100000
theorem slice_cell {H:Type} {enc:TypeId×Value→H} {W:World} : ∀ {t e:TypeId} {fuel:Nat} {v:Value} {x:DataW H×List MemPlace},Tryz.prog.underlying t=some (.slice e)→DataW.trod enc Tryz.prog W 0 (fun _=>true) true fuel t [v]=some x→∃ s:SV,v = .slice s.A s.n s.c:=by
 intro t e fuel v x ht h
 rcases DataW.trod_slice ht h with ⟨e,_⟩ | ⟨a,len,cap,_,_,_,_,e,_⟩
 ·exact⟨⟨none,0,0⟩,by simpa using e⟩
 ·exact⟨⟨some a,len,cap⟩,by simpa using e⟩
theorem caus_cells {H:Type} {enc:TypeId×Value→H} {W:World} {fuel:Nat} {c0 c1 c2:Value} {x:DataW H×List MemPlace} (h:DataW.trod enc Tryz.prog W 0 (fun _=>true) true fuel 37 [c0,c1,c2]=some x):∃ s0 s1 s2:SV,c0 = .slice s0.A s0.n s0.c∧c1 = .slice s1.A s1.n s1.c∧c2 = .slice s2.A s2.n s2.c:=by
 obtain⟨f0,f1,hT,t0,o0,t1,o1⟩:∃ f0 f1:Field,Tryz.prog.underlying 37=some (.struct #[f0,f1])∧f0.type=35∧f0.offset=0∧f1.type=31∧f1.offset=2:=⟨_,_,Tryz.underlying37,rfl,rfl,rfl,rfl⟩;obtain⟨y0,y1,n,_,_,h0,h1⟩:=trod_struct2 hT h
 have hc2:Tryz.prog.cellsOf 35=2:=by kernel_rfl
 have hc1:Tryz.prog.cellsOf 31=1:=by kernel_rfl
 rw[t0,o0,hc2]at h0;rw[t1,o1,hc1]at h1
 simp at h0 h1
 obtain⟨s2,rfl⟩:=slice_cell Tryz.underlying31 h1;obtain⟨g0,g1,hT2,u0,p0,u1,p1⟩:∃ g0 g1:Field,Tryz.prog.underlying 35=some (.struct #[g0,g1])∧g0.type=32∧g0.offset=0∧g1.type=33∧g1.offset=1:=⟨_,_,Tryz.underlying35,rfl,rfl,rfl,rfl⟩;obtain⟨y0,y1,n2,_,_,k0,k1⟩:=trod_struct2 hT2 h0
 have hcE:Tryz.prog.cellsOf 32=1:=by kernel_rfl
 have hcK:Tryz.prog.cellsOf 33=1:=by kernel_rfl
 rw[u0,p0,hcE]at k0;rw[u1,p1,hcK]at k1
 simp at k0 k1
 obtain⟨s0,rfl⟩:=slice_cell Tryz.underlying32 k0;obtain⟨s1,rfl⟩:=slice_cell Tryz.underlying33 k1;exact⟨s0,s1,s2,rfl,rfl,rfl⟩
theorem th_parts {H:Type} {enc:TypeId×Value→H} {W:World} {fuel:Nat} {cs:List Value} {y:DataW H×List MemPlace} (h:DataW.trod enc Tryz.prog W 0 (fun _=>true) true fuel 44 cs=some y) :
  ∃ (c0 c1 c2 c3 c4 c5 c6 c7 c8 c9 c10 c11 c12:Value) (n:Nat) (x0 x1 x2 x3 x4:DataW H×List MemPlace),cs=[c0,c1,c2,c3,c4,c5,c6,c7,c8,c9,c10,c11,c12] ∧
   DataW.trod enc Tryz.prog W 0 (fun _=>true) true n 5 [c0]=some x0∧DataW.trod enc Tryz.prog W 0 (fun _=>true) true n 31 [c1]=some x1∧DataW.trod enc Tryz.prog W 0 (fun _=>true) true n 37 [c2,c3,c4]=some x2∧DataW.trod enc Tryz.prog W 0 (fun _=>true) true n 40 [c5,c6,c7,c8]=some x3∧DataW.trod enc Tryz.prog W 0 (fun _=>true) true n 42 [c9,c10,c11,c12]=some x4 ∧
   ∀ m∈x2.1.weights Tryz.prog 37,m∈y.1.weights Tryz.prog 44:=by
 obtain⟨f0,f1,f2,f3,f4,hT,t0,o0,t1,o1,t2,o2,t3,o3,t4,o4⟩:∃ f0 f1 f2 f3 f4:Field,Tryz.prog.underlying 44=some (.struct #[f0,f1,f2,f3,f4])∧f0.type=5∧f0.offset=0∧f1.type=31∧f1.offset=1∧f2.type=37∧f2.offset=2∧f3.type=40∧f3.offset=5∧f4.type=42∧f4.offset=9:=⟨_,_,_,_,_,Tryz.underlying44,rfl,rfl,rfl,rfl,rfl,rfl,rfl,rfl,rfl,rfl⟩;obtain⟨xs,n,rfl,rfl,hlen,hxl,hfs⟩:=DataW.trod_struct hT h
 have hc13:Tryz.prog.cellsOf 44=13:=by kernel_rfl
 have hcu:Tryz.prog.cellsOf 5=1:=by kernel_rfl
 have hcc:Tryz.prog.cellsOf 31=1:=by kernel_rfl
 have hck:Tryz.prog.cellsOf 37=3:=by kernel_rfl
 have hco:Tryz.prog.cellsOf 40=4:=by kernel_rfl
 have hcv:Tryz.prog.cellsOf 42=4:=by kernel_rfl
 rw[hc13]at hlen
 obtain⟨c0,c1,c2,c3,c4,c5,c6,c7,c8,c9,c10,c11,c12,rfl⟩:∃ c0 c1 c2 c3 c4 c5 c6 c7 c8 c9 c10 c11 c12,cs=[c0,c1,c2,c3,c4,c5,c6,c7,c8,c9,c10,c11,c12]:=by
  match cs,hlen with
  | [c0,c1,c2,c3,c4,c5,c6,c7,c8,c9,c10,c11,c12],_=>exact⟨_,_,_,_,_,_,_,_,_,_,_,_,_,rfl⟩
 obtain⟨x0,x1,x2,x3,x4,rfl⟩:∃ x0 x1 x2 x3 x4,xs=[x0,x1,x2,x3,x4]:=by
  match xs,hxl with
  | [x0,x1,x2,x3,x4],_=>exact⟨_,_,_,_,_,rfl⟩
 have h0:=hfs 0 f0 rfl;have h1:=hfs 1 f1 rfl;have h2:=hfs 2 f2 rfl;have h3:=hfs 3 f3 rfl;have h4:=hfs 4 f4 rfl;rw[t0,o0,hcu]at h0;rw[t1,o1,hcc]at h1;rw[t2,o2,hck]at h2;rw[t3,o3,hco]at h3;rw[t4,o4,hcv]at h4
 simp at h0 h1 h2 h3 h4
 exact⟨c0,c1,c2,c3,c4,c5,c6,c7,c8,c9,c10,c11,c12,n,x0,x1,x2,x3,x4,rfl,h0,h1,h2,h3,h4,fun m hm=>by simp only[DataW.weights,hT];simp[DataW.weightsEach,t0,t1,t2,t3,t4,hm]⟩
theorem vec_cells {H:Type} {enc:TypeId×Value→H} {W:World} {n:Nat} {c9 c10 c11 c12:Value} {x:DataW H×List MemPlace} (h:DataW.trod enc Tryz.prog W 0 (fun _=>true) true n 42 [c9,c10,c11,c12]=some x):∃ a b c d:Int,c9 = .int .i64 a∧c10 = .int .i64 b∧c11 = .int .i64 c∧c12 = .int .i64 d:=by
 obtain⟨y0,y1,y2,y3,n,_,h0,h1,h2,h3⟩:=trod_array4 Tryz.underlying42 (by kernel_rfl) h;obtain⟨a,e0,_,_⟩:=DataW.trod_int Tryz.underlying2 h0;obtain⟨b,e1,_,_⟩:=DataW.trod_int Tryz.underlying2 h1;obtain⟨c,e2,_,_⟩:=DataW.trod_int Tryz.underlying2 h2;obtain⟨d,e3,_,_⟩:=DataW.trod_int Tryz.underlying2 h3
 simp at e0 e1 e2 e3
 exact⟨a,b,c,d,e0,e1,e2,e3⟩
theorem th_one {H:Type} {enc:TypeId×Value→H} {W:World} {fuel:Nat} {cs:List Value} {y:DataW H×List MemPlace} (h:DataW.trod enc Tryz.prog W 0 (fun _=>true) true fuel 44 cs=some y):∀ u∈cs,u.oneCell'=true:=by
 obtain⟨c0,c1,c2,c3,c4,c5,c6,c7,c8,c9,c10,c11,c12,n,x0,x1,x2,x3,x4,rfl,h0,h1,h2,h3,h4,_⟩:=th_parts h;obtain⟨kd,e0,_,_⟩:=DataW.trod_int Tryz.underlying5 h0;obtain⟨s1,rfl⟩:=slice_cell Tryz.underlying31 h1;obtain⟨s2,s3,s4,rfl,rfl,rfl⟩:=caus_cells h2;obtain⟨A,m,c,o,e3,_⟩:=Cs.op_of_trod h3;obtain⟨v0,v1,v2,v3,rfl,rfl,rfl,rfl⟩:=vec_cells h4
 simp at e0 e3
 obtain⟨rfl,rfl,rfl,rfl⟩:=e3;subst e0;intro u hu
 simp at hu
 rcases hu with rfl | rfl | rfl | rfl | rfl | rfl | rfl | rfl | rfl | rfl | rfl | rfl | rfl <;> rfl
theorem th_of_trod {H:Type} {enc:TypeId×Value→H} {W:World} {fuel:Nat} {cs:List Value} {y:DataW H×List MemPlace} (h:DataW.trod enc Tryz.prog W 0 (fun _=>true) true fuel 44 cs=some y) (hw:∀ m∈y.1.weights Tryz.prog 44,m≤reachBytes):∃ x:Thg,cs=thC x∧ThOk W W.heap.size x:=by
 obtain⟨c0,c1,c2,c3,c4,c5,c6,c7,c8,c9,c10,c11,c12,n,x0,x1,x2,x3,x4,rfl,h0,h1,h2,h3,h4,hws⟩:=th_parts h;obtain⟨kd,e0,_,w0⟩:=DataW.trod_int Tryz.underlying5 h0;obtain⟨⟨A1,n1,d1⟩,rfl⟩:=slice_cell Tryz.underlying31 h1;obtain⟨l1,hl1,hr1,_⟩:=ctx_of_trod (A:=A1) (len:=n1) (cap:=d1) h1;obtain⟨⟨⟨t,xs⟩,se,sk,sx⟩,e2,hp,hlt⟩:=cau_of_trod h2 (fun m hm=>hw m (hws m hm));obtain⟨A,m,c,o,e3,hro⟩:=Cs.op_of_trod h3;obtain⟨v0,v1,v2,v3,rfl,rfl,rfl,rfl⟩:=vec_cells h4;simp[cpV]at e0 e2 e3;obtain⟨rfl,rfl,rfl⟩:=e2;obtain⟨rfl,rfl,rfl,rfl⟩:=e3;subst e0;exact⟨⟨kd,l1,t,xs,o,(v0,v1,v2,v3),⟨A1,n1,d1⟩,se,sk,sx,⟨A,m,c⟩⟩,rfl,hl1,hr1,hp.tree,hlt,hp.len,hp.ctx,hro,Cs.wfu8 w0⟩
theorem things_of_trod {H:Type} {enc:TypeId×Value→H} {W:World} {A:Option Addr} {len cap fuel:Nat} {x:DataW H×List MemPlace}
  (h:DataW.trod enc Tryz.prog W 0 (fun _=>true) true fuel 22 (Value.slice A len cap).cells.toList=some x) (hw:∀ m∈x.1.weights Tryz.prog 22,m≤reachBytes):∃ l:List Thg,ThRd W W.heap.size A len cap l:=by
 obtain⟨s,f,e,hfl,hel,_,hrd,_⟩:=row_of_trod (sz:=13) Tryz.underlying22 (by kernel_rfl) (by omega) (fun n cs y _ hy u hu=>th_one hy u hu) h;simp[Value.cells]at e;obtain⟨e1,e2,e3⟩:=e;subst e1;subst e2;subst e3
 have hex:∀ i,∃ p:Thg,i<s.n→f i=thC p∧ThOk W W.heap.size p:=by
  intro i
  by_cases hi:i<s.n
  ·obtain⟨m,y,hm,hy,hwy⟩:=hel i hi
   obtain⟨p,h1,h2⟩:=th_of_trod hy (fun q hq=>hw q (hwy q hq));exact⟨p,fun _=>⟨h1,h2⟩⟩
  ·exact⟨⟨0,[],none_,[],⟨[],0,⟨#[]⟩,0⟩,(0,0,0,0),⟨none,0,0⟩,⟨none,0,0⟩,⟨none,0,0⟩,⟨none,0,0⟩,⟨none,0,0⟩⟩,fun h=>absurd h hi⟩
 obtain⟨pf,hpf⟩:=Classical.axiomOfChoice hex;refine⟨(List.range s.n).map pf,by simp,?_,fun p hp=>?_⟩
 ·have e:((List.range s.n).map pf).flatMap thC=(List.range s.n).flatMap f:=by
   rw[List.flatMap_map];unfold List.flatMap
   congr 1
   exact List.map_congr_left fun i hi=>((hpf i (List.mem_range.1 hi)).1).symm
  rw[e];exact hrd
 ·obtain⟨i,hi,rfl⟩:=List.mem_map.1 hp
  exact (hpf i (List.mem_range.1 hi)).2
end Pk
end Go.Proofs.YtcbpgemiffmieaaGreat
namespace Go.Proofs.YtcbpgemiffmieaaGreat
open Go.ChangeShapes Go.WideShapes Go.ChangeAt Go.RowKit
namespace Pk
open Tr Cx Cs Sp Rw Codec
def NoO (bs:List UInt8):Prop:=∀ o x,OpOk o→bs≠opB o++x
theorem opB_cat (o:OpM) (x:List UInt8):opB o++x=numB o.path.length++(o.path.flatMap txtB++(numB o.act++(txtB o.s++(numB o.n++x)))):=by unfold opB listB;simp only[List.append_assoc]
theorem ok63 {o:OpM} (h:OpOk o):I63 o.act∧I63 o.n:=by
 have ha:=h.act;unfold actOk at ha;refine⟨⟨by omega,by omega⟩,?_⟩
 by_cases h1:o.act=5
 ·have:=h.num h1
  exact⟨by omega,by omega⟩
 ·rw[h.zero h1];exact⟨by omega,by omega⟩
def PS (bs:List UInt8) (K:Nat) (ps:List ByteArray) (rest:List UInt8) (b:Bool):Prop:=(b=false∧bs=numB K++(ps.flatMap txtB++rest))∨(b=true∧rest=[]∧NoO bs)
def QS (bs:List UInt8) (k:Nat) (o:OpM) (rest:List UInt8) (b:Bool):Prop:=
 (b=false∧bs=numB o.path.length++(o.path.flatMap txtB++((match k with | 0=>[] | 1=>numB o.act | 2=>numB o.act++txtB o.s | _=>numB o.act++(txtB o.s++numB o.n))++rest)))∨(b=true∧rest=[]∧NoO bs)
section
variable {bs rest r2:List UInt8} {b c:Bool} {K k:Nat} {ps:List ByteArray} {o:OpM} {v:Int} {s:ByteArray}
theorem PS.bad (h:PS bs K ps rest b):b=true→rest=[]:=fun hb=>by rcases h with h | h <;> simp_all
theorem PS.le (h:PS bs K ps rest b):rest.length≤bs.length:=by
 rcases h with ⟨_,rfl⟩ | ⟨_,rfl,_⟩
 ·simp only[List.length_append];omega
 ·simp
theorem QS.bad (h:QS bs k o rest b):b=true→rest=[]:=fun hb=>by rcases h with h | h <;> simp_all
theorem QS.le (h:QS bs k o rest b):rest.length≤bs.length:=by
 rcases h with ⟨_,rfl⟩ | ⟨_,rfl,_⟩
 ·simp only[List.length_append];omega
 ·simp
theorem PS.zero (h:ManyS bs K rest b):PS bs K [] rest b:=by
 rcases h with ⟨rfl,h,_⟩ | ⟨rfl,rfl,_,h⟩
 ·exact .inl ⟨rfl,by simpa using h⟩
 ·refine .inr ⟨rfl,rfl,fun o x _ e=>?_⟩
  rw[opB_cat]at e;refine h o.path.length _ ?_ e
  have h1:=list_len (f:=txtB) (l:=o.path) fun a _=>by unfold txtB;have:=numB_pos a.size;rw[List.length_append];omega
  simp only[List.length_append];omega
theorem PS.step (h:PS bs K ps rest b) (hk:ps.length<K) (hr:TxtS rest s r2 c):PS bs K (ps++[s]) r2 c:=by
 rcases h with ⟨rfl,h⟩ | ⟨rfl,h1,h2⟩
 ·rcases hr with ⟨rfl,h3⟩ | ⟨rfl,rfl,_,h3⟩
  ·refine .inl ⟨rfl,?_⟩
   rw[h,h3];simp[List.append_assoc]
  ·refine .inr ⟨rfl,rfl,fun o x _ ee=>?_⟩
   rw[h,opB_cat]at ee;obtain⟨e1,ee⟩:=numB_prefix ee;obtain⟨m,hm,ee⟩:=seq_cut (fun a=>pre_txt a) (by omega:ps.length≤o.path.length) ee.symm
   cases m with
   | nil=>
    rw[List.append_nil]at hm;rw[hm]at e1;omega
   | cons y m=>
    rw[List.flatMap_cons,List.append_assoc]at ee;exact h3 _ _ ee
 ·rcases hr with ⟨rfl,h3⟩ | ⟨rfl,rfl,_,_⟩
  ·rw[h1]at h3
   exact absurd h3 no_txt
  ·exact .inr ⟨rfl,rfl,h2⟩
theorem QS.zero (h:PS bs K ps rest b) (hk:ps.length=K) (a:Int) (s:ByteArray) (n:Int):QS bs 0 ⟨ps,a,s,n⟩ rest b:=by
 rcases h with ⟨rfl,h⟩ | h
 ·exact .inl ⟨rfl,by rw[h,hk];rfl⟩
 ·exact .inr h
theorem QS.one (h:QS bs 0 o rest b) (hn:NumS rest v r2 c):QS bs 1 ⟨o.path,v,o.s,o.n⟩ r2 c:=by
 rcases h with ⟨_,h⟩ | ⟨_,h1,h2⟩
 ·have h:bs=numB o.path.length++(o.path.flatMap txtB++rest):=h
  rcases hn with ⟨rfl,h3,_⟩ | ⟨rfl,rfl,_,h3⟩
  ·exact .inl ⟨rfl,by rw[h,h3];rfl⟩
  ·refine .inr ⟨rfl,rfl,fun o' x hr ee=>?_⟩
   rw[h,opB_cat]at ee;obtain⟨e1,ee⟩:=numB_prefix ee;obtain⟨_,ee⟩:=pre_seq (fun a _=>pre_txt a) (by omega) ee;exact h3 _ _ (ok63 hr).1 ee
 ·rcases hn with ⟨rfl,h3,_⟩ | ⟨rfl,rfl,_,_⟩
  ·rw[h1]at h3;exact absurd h3 no_num
  ·exact .inr ⟨rfl,rfl,h2⟩
theorem QS.two (h:QS bs 1 o rest b) (hn:TxtS rest s r2 c):QS bs 2 ⟨o.path,o.act,s,o.n⟩ r2 c:=by
 rcases h with ⟨_,h⟩ | ⟨_,h1,h2⟩
 ·have h:bs=numB o.path.length++(o.path.flatMap txtB++(numB o.act++rest)):=h
  rcases hn with ⟨rfl,h3⟩ | ⟨rfl,rfl,_,h3⟩
  ·exact .inl ⟨rfl,by rw[h,h3];simp only[List.append_assoc]⟩
  ·refine .inr ⟨rfl,rfl,fun o' x hr ee=>?_⟩
   rw[h,opB_cat]at ee;obtain⟨e1,ee⟩:=numB_prefix ee;obtain⟨_,ee⟩:=pre_seq (fun a _=>pre_txt a) (by omega) ee;obtain⟨_,ee⟩:=numB_prefix ee;exact h3 _ _ ee
 ·rcases hn with ⟨rfl,h3⟩ | ⟨rfl,rfl,_,_⟩
  ·rw[h1]at h3;exact absurd h3 no_txt
  ·exact .inr ⟨rfl,rfl,h2⟩
theorem QS.three (h:QS bs 2 o rest b) (hn:NumS rest v r2 c):QS bs 3 ⟨o.path,o.act,o.s,v⟩ r2 c:=by
 rcases h with ⟨_,h⟩ | ⟨_,h1,h2⟩
 ·have h:bs=numB o.path.length++(o.path.flatMap txtB++(numB o.act++(txtB o.s++rest))):=by rw[h];simp only[List.append_assoc]
  rcases hn with ⟨rfl,h3,_⟩ | ⟨rfl,rfl,_,h3⟩
  ·exact .inl ⟨rfl,by rw[h,h3];simp only[List.append_assoc]⟩
  ·refine .inr ⟨rfl,rfl,fun o' x hr ee=>?_⟩
   rw[h,opB_cat]at ee;obtain⟨e1,ee⟩:=numB_prefix ee;obtain⟨_,ee⟩:=pre_seq (fun a _=>pre_txt a) (by omega) ee;obtain⟨_,ee⟩:=numB_prefix ee;obtain⟨_,ee⟩:=pre_txt _ _ _ _ ee;exact h3 _ _ (ok63 hr).2 ee
 ·rcases hn with ⟨rfl,h3,_⟩ | ⟨rfl,rfl,_,_⟩
  ·rw[h1]at h3;exact absurd h3 no_num
  ·exact .inr ⟨rfl,rfl,h2⟩
theorem QS.all (h:QS bs 3 o rest false):bs=opB o++rest:=by
 rcases h with ⟨_,h⟩ | ⟨h,_⟩
 ·rw[opB_cat,h];simp only[List.append_assoc]
 ·cases h
theorem QS.no (h:QS bs 3 o rest false) (hr:¬OpOk o):NoO bs:=fun o' x ho e=>by
 rw[h.all,opB_cat,opB_cat]at e;obtain⟨e1,e⟩:=numB_prefix e;obtain⟨e2,e⟩:=pre_seq (fun a _=>pre_txt a) (by omega) e;obtain⟨e3,e⟩:=numB_prefix e;obtain⟨e4,e⟩:=pre_txt _ _ _ _ e;obtain⟨e5,_⟩:=numB_prefix e
 apply hr
 cases o;cases o'
 dsimp only at e2 e3 e4 e5;subst e2;subst e3;subst e4;subst e5;exact ho
theorem QS.not (h:QS bs 3 o rest true):NoO bs:=by
 rcases h with ⟨h,_⟩ | ⟨_,_,h⟩
 ·cases h
 ·exact h
end
def OpS (bs:List UInt8) (o:OpM) (rest:List UInt8) (b:Bool):Prop:=(b=false∧bs=opB o++rest∧OpOk o)∨(b=true∧rest=[]∧o=⟨[],0,⟨#[]⟩,0⟩∧NoO bs)
structure StO (w:World) (g:Nat) (A:Option Addr) (m c:Nat) (b:Bool) (Ap:Option Addr) (np cp:Nat) (xa:Int) (xs:ByteArray) (xv:Int) (wr:World):Prop where
 kept:Kept [(⟨g,0,none⟩,.slice A m c),(⟨g,1,none⟩,.bool b),(⟨g+1,0,none⟩,.slice none 0 0),(⟨g+1,1,none⟩,.int .i64 0),(⟨g+1,2,none⟩,.string ⟨#[]⟩),(⟨g+1,3,none⟩,.int .i64 0),(⟨g+2,0,none⟩,.slice none 0 0),(⟨g+2,1,none⟩,.bool false),(⟨g+3,0,none⟩,.slice Ap np cp),(⟨g+3,1,none⟩,.int .i64 xa),(⟨g+3,2,none⟩,.string xs),(⟨g+3,3,none⟩,.int .i64 xv)] w wr
 f0:Free g wr
 f1:Free (g+1) wr
 f2:Free (g+2) wr
 f3:Free (g+3) wr
 gw:w.heap.size≤g
namespace StO
variable {w wr w':World} {g m c np cp m' c' n':Nat} {A Ap A':Option Addr} {b b':Bool} {xa xv:Int} {xs:ByteArray}
theorem later (h:StO w g A m c b Ap np cp xa xs xv wr) (hb:Below wr.heap.size wr w'):StO w g A m c b Ap np cp xa xs xv w':=⟨h.kept.later hb,h.f0.later hb,h.f1.later hb,h.f2.later hb,h.f3.later hb,h.gw⟩
theorem free_low {q:Nat} (h:Free q wr) (hb:Below (g+4) wr w') (hq:q<g+4):Free q w':=⟨Nat.lt_of_lt_of_le h.1 hb.size,fun j=>(hb.frozen (p:=⟨q,j,none⟩) hq).trans (h.2 j)⟩
theorem low (h:StO w g A m c b Ap np cp xa xs xv wr) (hb:Below (g+4) wr w'):StO w g A m c b Ap np cp xa xs xv w':=by
 have hgw:=h.gw;refine⟨⟨h.kept.1.trans (hb.mono (by omega)),fun x hx=>?_⟩,free_low h.f0 hb (by omega),free_low h.f1 hb (by omega),free_low h.f2 hb (by omega),free_low h.f3 hb (by omega),hgw⟩;obtain⟨h1,h2⟩:=h.kept.2 x hx;refine⟨Nat.lt_of_lt_of_le h1 hb.size,(hb.cell (p:=x.1) ?_).trans h2⟩;simp only[List.mem_cons,List.not_mem_nil,or_false]at hx
 rcases hx with rfl | rfl | rfl | rfl | rfl | rfl | rfl | rfl | rfl | rfl | rfl | rfl <;> (dsimp only;omega)
theorem put (h:StO w g A m c b Ap np cp xa xs xv wr) (A':Option Addr) (m' c':Nat) (b':Bool):StO w g A' m' c' b' Ap np cp xa xs xv ((wr.setCell ⟨g,0,none⟩ (.slice A' m' c')).setCell ⟨g,1,none⟩ (.bool b')):=by
 obtain⟨k0,k1,k2,k3,k4,k5,k6,k7,-⟩:=h.kept.cj;have k8:=h.kept.t8.c0;have k9:=h.kept.t8.c1;have k10:=h.kept.t8.c2;have k11:=h.kept.t8.c3;have hgw:=h.gw
 have n01:¬g=g+1:=by omega
 have n02:¬g=g+2:=by omega
 have n03:¬g=g+3:=by omega
 have n10:¬g+1=g:=by omega
 have n12:¬g+1=g+2:=by omega
 have n13:¬g+1=g+3:=by omega
 have n20:¬g+2=g:=by omega
 have n21:¬g+2=g+1:=by omega
 have n23:¬g+2=g+3:=by omega
 have n30:¬g+3=g:=by omega
 have n31:¬g+3=g+1:=by omega
 have n32:¬g+3=g+2:=by omega
 have h1:=((Kept.nil_of h.kept.below).set (a:=⟨g,0,none⟩) hgw (by simp) (.slice A' m' c')).set (a:=⟨g,1,none⟩) hgw (by simp) (.bool b')
 refine⟨((((((((((((h1.cons_of ?_).cons_of ?_).cons_of ?_).cons_of ?_).cons_of ?_).cons_of ?_).cons_of ?_).cons_of ?_).cons_of ?_).cons_of ?_).cons_of ?_).cons_of ?_),(h.f0.set _ _).set _ _,(h.f1.set _ _).set _ _,(h.f2.set _ _).set _ _,(h.f3.set _ _).set _ _,hgw⟩ <;> go_simp
theorem put0 (h:StO w g A m c b Ap np cp xa xs xv wr) (A':Option Addr) (n' c':Nat):StO w g A m c b A' n' c' xa xs xv (wr.setCell ⟨g+3,0,none⟩ ((.slice A' n' c'))):=by
 obtain⟨k0,k1,k2,k3,k4,k5,k6,k7,-⟩:=h.kept.cj;have k8:=h.kept.t8.c0;have k9:=h.kept.t8.c1;have k10:=h.kept.t8.c2;have k11:=h.kept.t8.c3;have hgw:=h.gw
 have hgw3:w.heap.size≤g+3:=by omega
 have n01:¬g=g+1:=by omega
 have n02:¬g=g+2:=by omega
 have n03:¬g=g+3:=by omega
 have n10:¬g+1=g:=by omega
 have n12:¬g+1=g+2:=by omega
 have n13:¬g+1=g+3:=by omega
 have n20:¬g+2=g:=by omega
 have n21:¬g+2=g+1:=by omega
 have n23:¬g+2=g+3:=by omega
 have n30:¬g+3=g:=by omega
 have n31:¬g+3=g+1:=by omega
 have n32:¬g+3=g+2:=by omega
 have h1:=(Kept.nil_of h.kept.below).set (a:=⟨g+3,0,none⟩) hgw3 (by simp) ((.slice A' n' c'))
 refine⟨((((((((((((h1.cons_of ?_).cons_of ?_).cons_of ?_).cons_of ?_).cons_of ?_).cons_of ?_).cons_of ?_).cons_of ?_).cons_of ?_).cons_of ?_).cons_of ?_).cons_of ?_),h.f0.set _ _,h.f1.set _ _,h.f2.set _ _,h.f3.set _ _,hgw⟩ <;> go_simp
theorem put1 (h:StO w g A m c b Ap np cp xa xs xv wr) (v:Int):StO w g A m c b Ap np cp v xs xv (wr.setCell ⟨g+3,1,none⟩ ((.int .i64 v))):=by
 obtain⟨k0,k1,k2,k3,k4,k5,k6,k7,-⟩:=h.kept.cj;have k8:=h.kept.t8.c0;have k9:=h.kept.t8.c1;have k10:=h.kept.t8.c2;have k11:=h.kept.t8.c3;have hgw:=h.gw
 have hgw3:w.heap.size≤g+3:=by omega
 have n01:¬g=g+1:=by omega
 have n02:¬g=g+2:=by omega
 have n03:¬g=g+3:=by omega
 have n10:¬g+1=g:=by omega
 have n12:¬g+1=g+2:=by omega
 have n13:¬g+1=g+3:=by omega
 have n20:¬g+2=g:=by omega
 have n21:¬g+2=g+1:=by omega
 have n23:¬g+2=g+3:=by omega
 have n30:¬g+3=g:=by omega
 have n31:¬g+3=g+1:=by omega
 have n32:¬g+3=g+2:=by omega
 have h1:=(Kept.nil_of h.kept.below).set (a:=⟨g+3,1,none⟩) hgw3 (by simp) ((.int .i64 v))
 refine⟨((((((((((((h1.cons_of ?_).cons_of ?_).cons_of ?_).cons_of ?_).cons_of ?_).cons_of ?_).cons_of ?_).cons_of ?_).cons_of ?_).cons_of ?_).cons_of ?_).cons_of ?_),h.f0.set _ _,h.f1.set _ _,h.f2.set _ _,h.f3.set _ _,hgw⟩ <;> go_simp
theorem put2 (h:StO w g A m c b Ap np cp xa xs xv wr) (v:ByteArray):StO w g A m c b Ap np cp xa v xv (wr.setCell ⟨g+3,2,none⟩ ((.string v))):=by
 obtain⟨k0,k1,k2,k3,k4,k5,k6,k7,-⟩:=h.kept.cj;have k8:=h.kept.t8.c0;have k9:=h.kept.t8.c1;have k10:=h.kept.t8.c2;have k11:=h.kept.t8.c3;have hgw:=h.gw
 have hgw3:w.heap.size≤g+3:=by omega
 have n01:¬g=g+1:=by omega
 have n02:¬g=g+2:=by omega
 have n03:¬g=g+3:=by omega
 have n10:¬g+1=g:=by omega
 have n12:¬g+1=g+2:=by omega
 have n13:¬g+1=g+3:=by omega
 have n20:¬g+2=g:=by omega
 have n21:¬g+2=g+1:=by omega
 have n23:¬g+2=g+3:=by omega
 have n30:¬g+3=g:=by omega
 have n31:¬g+3=g+1:=by omega
 have n32:¬g+3=g+2:=by omega
 have h1:=(Kept.nil_of h.kept.below).set (a:=⟨g+3,2,none⟩) hgw3 (by simp) ((.string v))
 refine⟨((((((((((((h1.cons_of ?_).cons_of ?_).cons_of ?_).cons_of ?_).cons_of ?_).cons_of ?_).cons_of ?_).cons_of ?_).cons_of ?_).cons_of ?_).cons_of ?_).cons_of ?_),h.f0.set _ _,h.f1.set _ _,h.f2.set _ _,h.f3.set _ _,hgw⟩ <;> go_simp
theorem put3 (h:StO w g A m c b Ap np cp xa xs xv wr) (v:Int):StO w g A m c b Ap np cp xa xs v (wr.setCell ⟨g+3,3,none⟩ ((.int .i64 v))):=by
 obtain⟨k0,k1,k2,k3,k4,k5,k6,k7,-⟩:=h.kept.cj;have k8:=h.kept.t8.c0;have k9:=h.kept.t8.c1;have k10:=h.kept.t8.c2;have k11:=h.kept.t8.c3;have hgw:=h.gw
 have hgw3:w.heap.size≤g+3:=by omega
 have n01:¬g=g+1:=by omega
 have n02:¬g=g+2:=by omega
 have n03:¬g=g+3:=by omega
 have n10:¬g+1=g:=by omega
 have n12:¬g+1=g+2:=by omega
 have n13:¬g+1=g+3:=by omega
 have n20:¬g+2=g:=by omega
 have n21:¬g+2=g+1:=by omega
 have n23:¬g+2=g+3:=by omega
 have n30:¬g+3=g:=by omega
 have n31:¬g+3=g+1:=by omega
 have n32:¬g+3=g+2:=by omega
 have h1:=(Kept.nil_of h.kept.below).set (a:=⟨g+3,3,none⟩) hgw3 (by simp) ((.int .i64 v))
 refine⟨((((((((((((h1.cons_of ?_).cons_of ?_).cons_of ?_).cons_of ?_).cons_of ?_).cons_of ?_).cons_of ?_).cons_of ?_).cons_of ?_).cons_of ?_).cons_of ?_).cons_of ?_),h.f0.set _ _,h.f1.set _ _,h.f2.set _ _,h.f3.set _ _,hgw⟩ <;> go_simp
end StO
def InvO (w:World) (g B:Nat) (bs:List UInt8) (K j:Nat) (wr:World):Prop:=
 ∃ (ps:List ByteArray) (rest:List UInt8) (m:Nat) (A:Option Addr) (c:Nat) (b:Bool) (Ap:Option Addr) (cp:Nat),ps.length=j∧Own wr (g+4) 9 1 Ap j cp (strs ps)∧StO w g A m c b Ap j cp 0 ⟨#[]⟩ 0 wr∧rest.length=m∧Rd wr B 1 A m c (u8s rest)∧PS bs K ps rest b
end Pk
end Go.Proofs.YtcbpgemiffmieaaGreat
namespace Go.Proofs.YtcbpgemiffmieaaGreat
open Go.ChangeShapes Go.WideShapes Go.ChangeAt Go.RowKit
namespace Pk
open Tr Cx Cs Sp Rw Codec
set_option maxRecDepth 100000 in
set_option maxHeartbeats 4000000 in
theorem toop_any (bs:List UInt8) (n:Nat) (A:Option Addr) (c:Nat) (bad:Bool) (w:World) {B:Nat} (hl:bs.length=n) (hn:n≤1000) (hB:B≤w.heap.size) (hr:Rd w B 1 A n c (u8s bs)) (hb:bad=true→bs=[]) :
  Calls Tryz.prog 51 #[.agg #[.slice A n c,.bool bad]] w fun e w'=>∃ (o:OpM) (Ap:Option Addr) (np cp:Nat) (rest:List UInt8) (m:Nat) (A':Option Addr) (c':Nat) (b:Bool),e = .returned (.tuple #[.agg #[.slice Ap np cp,.int .i64 o.act,.string o.s,.int .i64 o.n],.agg #[.slice A' m c',.bool b]])∧o.path.length=np∧Own w' w.heap.size 9 1 Ap np cp (strs o.path)∧rest.length=m∧Rd w' B 1 A' m c' (u8s rest)∧OpS bs o rest b∧Below w.heap.size w w':=by
 obtain⟨g,hg⟩:∃ g,g=w.heap.size:=⟨_,rfl⟩;obtain⟨W,hW⟩:∃ W,W=(((w.alloc (.cells #[.slice A n c,.bool bad] 51)).alloc (.cells #[.slice none 0 0,.int .i64 0,.string ⟨#[]⟩,.int .i64 0] 40)).alloc (.cells #[.slice none 0 0,.bool false] 51)).alloc (.cells #[.slice none 0 0,.int .i64 0,.string ⟨#[]⟩,.int .i64 0] 40):=⟨_,rfl⟩
 have hbW:Below w.heap.size w W:=by
  rw[hW];exact ((((Below.refl _ _).alloc (Nat.le_refl _) _).alloc (by simp) _).alloc (by simp;omega) _).alloc (by simp;omega) _
 have hgw:w.heap.size≤g:=by omega
 have hBg:B≤g:=by omega
 have hBg3:B≤g+3:=by omega
 have n01:¬g=g+1:=by omega
 have n02:¬g=g+2:=by omega
 have n03:¬g=g+3:=by omega
 have n10:¬g+1=g:=by omega
 have n12:¬g+1=g+2:=by omega
 have n13:¬g+1=g+3:=by omega
 have n20:¬g+2=g:=by omega
 have n21:¬g+2=g+1:=by omega
 have n23:¬g+2=g+3:=by omega
 have n30:¬g+3=g:=by omega
 have n31:¬g+3=g+1:=by omega
 have n32:¬g+3=g+2:=by omega
 have HST0:Hid (StO w g A n c bad none 0 0 0 ⟨#[]⟩ 0 W):=by
  refine⟨?_,?_,?_,?_,?_,hgw⟩
  ·have h1:=Kept.nil_of hbW
   refine ((((((((((((h1.cons_of ?_).cons_of ?_).cons_of ?_).cons_of ?_).cons_of ?_).cons_of ?_).cons_of ?_).cons_of ?_).cons_of ?_).cons_of ?_).cons_of ?_).cons_of ?_) <;> (rw[hW,hg];go_simp)
  all_goals (rw[hW,hg];exact⟨by simp <;> omega,fun j=>by go_simp⟩)
 have hB1:B≤W.heap.size:=Nat.le_trans hB hbW.size;have HC:=Lib.hid (many_any bs n A c bad W hl (by omega) hB1 (hr.below (hbW.mono hB)) hb);have HL:=Lib.hid hl;have HBB:=Lib.hid hB;have HW:=Lib.hid hW;have HG:=Lib.hid hg;have k0:=HST0.out.kept.c0;have k1:=HST0.out.kept.c1;clear hl hr hb hbW hW hg hB hB1;go_enter Tryz.func51,Tryz.ntmps51;go_wp2_with fail;rw[← HG.out,← HW.out];refine HC.out.mono ?_;rintro e w2 ⟨K,rest0,m0,A2,c2,b2,rfl,hm,hrd,hS,hb2⟩;have HST2:=Lib.hid (HST0.out.later hb2.out);clear k0 k1;have f0:=HST2.out.f0.2 0;have f1:=HST2.out.f0.2 1;have k0:=HST2.out.kept.c0;have k1:=HST2.out.kept.c1;obtain⟨W3,hW3⟩:∃ W,W=(w2.setCell ⟨g,0,none⟩ (.slice A2 m0 c2)).setCell ⟨g,1,none⟩ (.bool b2):=⟨_,rfl⟩
 have HI3:Hid (InvO w g B bs K 0 W3):=by
  refine⟨[],rest0,m0,A2,c2,b2,none,0,rfl,⟨World.ownsRow_nil _ _ _ _,by simp[Tr.strs]⟩,?_,hm.out,?_,PS.zero hS.out⟩
  ·rw[hW3];exact HST2.out.put A2 m0 c2 b2
  ·rw[hW3];exact hrd.out.below (((Below.refl B w2).setCell (p:=⟨g,0,none⟩) hBg _).setCell (p:=⟨g,1,none⟩) hBg _)
 have hK:K≤1000:=by
  have h1:=HL.out
  rcases hS.out with ⟨_,h2,h3⟩ | ⟨_,_,h2,_⟩
  ·have h4:=congrArg List.length h2
   rw[List.length_append]at h4;omega
  ·omega
 have HW3:=Lib.hid hW3;clear hW3 hm hrd hS hb2 HC HST0 HST2;go_wp2_with fail
 try rw[← HW3.out]
 clear k0 k1 f0 f1
 go_loopw [14] (fun q wr=>∃ (j:Nat),q = .int .i64 j∧j≤K∧Hid (InvO w g B bs K j wr)) (fun q _=>K-(intOf q).toNat)
 case atStart=>exact⟨0,rfl,Nat.zero_le _,HI3.out⟩
 case round=>
  obtain⟨j,rfl,hj,HI⟩:=hrel;clear HI3 HW3;obtain⟨ps,rest,m,A,c,b,Ap,cp,hps,hown,hst,hm,hrd,hks⟩:=HI.out;have HPS:=Lib.hid hps;have HOWN:=Lib.hid hown;have HST:=Lib.hid hst;have HM:=Lib.hid hm;have HRD:=Lib.hid hrd;have HKS:=Lib.hid hks
  have HLR:Hid (rest.length≤1000):=by unfold Hid;have h1:=hks.le;have h2:=HL.out;omega
  have k0:=hst.kept.c0;have k1:=hst.kept.c1;clear hps hown hst hm hrd hks HI
  by_cases hlt:j<K
  ·have HC5:=Lib.hid (txtS_any rest m A c b wr HM.out (by have h1:=HLR.out;have h3:=HM.out;omega) (Nat.le_trans HBB.out HST.out.kept.below.size) HRD.out HKS.out.bad)
   go_wp2_with fail;refine HC5.out.mono ?_;rintro e w5 ⟨s,r1,m1,A1,C1,b1,rfl,hm5,hrd5,hs5,hb5⟩;have HST5:=Lib.hid (HST.out.later hb5.out);have HOWN5:=own_later HOWN.out hb5.out;clear k0 k1;have k0:=HST5.out.kept.c0;have k1:=HST5.out.kept.c1;have k8:=HST5.out.kept.t8.c0;have f0:=HST5.out.f0.2 0;have f1:=HST5.out.f0.2 1;obtain⟨wk,hwk⟩:∃ W,W=(w5.setCell ⟨g,0,none⟩ (.slice A1 m1 C1)).setCell ⟨g,1,none⟩ (.bool b1):=⟨_,rfl⟩
   have hst1:StO w g A1 m1 C1 b1 Ap j cp 0 ⟨#[]⟩ 0 wk:=by rw[hwk];exact HST5.out.put A1 m1 C1 b1
   have hrd1:Rd wk B 1 A1 m1 C1 (u8s r1):=by rw[hwk];exact hrd5.out.below (((Below.refl B w5).setCell (p:=⟨g,0,none⟩) hBg _).setCell (p:=⟨g,1,none⟩) hBg _)
   have hown1:Own wk (g+4) 9 1 Ap j cp (strs ps):=by rw[hwk];exact (HOWN5.set_below (a:=⟨g,0,none⟩) (by dsimp only;omega) _).set_below (a:=⟨g,1,none⟩) (by dsimp only;omega) _
   have hg2:g+4≤wk.heap.size:=by have:=hst1.f3.1;omega
   have hszk:wk.heap.size=w5.heap.size:=by rw[hwk];simp[World.setCell]
   obtain⟨A6,c6,w6,hrun,ho6,hb6⟩:=push_str wk (g+4) w5.heap.size hszk hown1 hg2 s (by omega);rw[hwk]at hrun;have hst6:=hst1.low hb6;obtain⟨W7,hW7⟩:∃ W,W=w6.setCell ⟨g+3,0,none⟩ (.slice A6 (j+1) c6):=⟨_,rfl⟩
   have HI6:Hid (InvO w g B bs K (j+1) W7):=by
    refine⟨ps++[s],r1,m1,A1,C1,b1,A6,c6,by simp[HPS.out],?_,?_,hm5.out,?_,PS.step HKS.out (by rw[HPS.out];exact hlt) hs5.out⟩
    ·rw[hW7];exact ho6.set_below (a:=⟨g+3,0,none⟩) (by dsimp only;omega) _
    ·rw[hW7];exact hst6.put0 A6 (j+1) c6
    ·rw[hW7];exact (hrd1.below (hb6.mono (by omega))).below ((Below.refl B w6).setCell (p:=⟨g+3,0,none⟩) hBg3 _)
   have f8:=hst6.f3.2 0;have l8:=hst6.kept.t8.c0;have Hrun:=Lib.hid hrun;have HW7:=Lib.hid hW7;clear hm5 hrd5 hs5 hb5 HC5 HST5 HOWN5 hwk hst1 hrd1 hown1 hg2 hszk hrun ho6 hb6 hst6 hW7;go_wp2_with (at_builtin;refine Lib.wpList_append_run _ rfl _ _ _ _ rfl _ _ rfl rfl _ _ Hrun.out ?_);rw[← HW7.out];go_roundw
   case rel=>exact⟨j+1,by go_num,by omega,HI6.out⟩
   case measure=>simp[intOf];omega
  ·have hjK:j=K:=by omega
   subst hjK;obtain⟨wq0,hwq⟩:∃ W,W=wr:=⟨_,rfl⟩;rw[← hwq]at HOWN HST HRD k0 k1 ⊢;have HWQ0:Hid (wq0=wq0):=rfl;have HST0:=HST;have HM0:=HM;have HRD0:=HRD;have HOW0:=HOWN;have HQ0:Hid (QS bs 0 ⟨ps,0,⟨#[]⟩,0⟩ rest b):=QS.zero HKS.out HPS.out 0 ⟨#[]⟩ 0;have f0:=HST.out.f0.2 0;have f1:=HST.out.f0.2 1;have jq:=HST.out.kept.t8.c1;have fq:=HST.out.f3.2 1;clear hwq HST HOWN HRD HKS;have HC5:=Lib.hid (numS_any rest m A c b wq0 HM0.out (by have h1:=HQ0.out.le;have h2:=HL.out;have h3:=HM0.out;omega) (Nat.le_trans HBB.out HST0.out.kept.below.size) HRD0.out HQ0.out.bad);go_wp2_with fail;refine HC5.out.mono ?_;rintro e w05 ⟨v0,r1,m1,A1,C1,b1,rfl,hm5,hrd5,hs5,hb5⟩;have HST5:=Lib.hid (HST0.out.later hb5.out);have HOWN5:=own_later HOW0.out hb5.out;clear k0 k1 f0 f1 jq fq;have jq:=HST5.out.kept.t8.c1;have fq:=HST5.out.f3.2 1
   have k0:=HST5.out.kept.c0;have k1:=HST5.out.kept.c1;have f0:=HST5.out.f0.2 0;have f1:=HST5.out.f0.2 1;obtain⟨wq1,hwq⟩:∃ W,W=((w05.setCell ⟨g,0,none⟩ (.slice A1 m1 C1)).setCell ⟨g,1,none⟩ (.bool b1)).setCell ⟨g+3,1,none⟩ (.int .i64 v0):=⟨_,rfl⟩
   have HST1:Hid (StO w g A1 m1 C1 b1 Ap j cp v0 ⟨#[]⟩ 0 wq1):=by unfold Hid;rw[hwq];exact (HST5.out.put A1 m1 C1 b1).put1 v0
   have HM1:=hm5
   have HRD1:Hid (Rd wq1 B 1 A1 m1 C1 (u8s r1)):=by unfold Hid;rw[hwq];exact hrd5.out.below ((((Below.refl B w05).setCell (p:=⟨g,0,none⟩) hBg _).setCell (p:=⟨g,1,none⟩) hBg _).setCell (p:=⟨g+3,1,none⟩) hBg3 _)
   have HQ1:Hid (QS bs 1 ⟨ps,v0,⟨#[]⟩,0⟩ r1 b1):=HQ0.out.one hs5.out
   have HOW1:Hid (Own wq1 (g+4) 9 1 Ap j cp (strs ps)):=by unfold Hid;rw[hwq];exact (((HOWN5.set_below (a:=⟨g,0,none⟩) (by dsimp only;omega) _).set_below (a:=⟨g,1,none⟩) (by dsimp only;omega) _).set_below (a:=⟨g+3,1,none⟩) (by dsimp only;omega) _)

   have HWQ1:=Lib.hid hwq;clear hwq hm5 hrd5 hs5 hb5 HC5 HST5 HOWN5 HST0 HRD0 HQ0 HOW0;have HC5:=Lib.hid (txtS_any r1 m1 A1 C1 b1 wq1 HM1.out (by have h1:=HQ1.out.le;have h2:=HL.out;have h3:=HM1.out;omega) (Nat.le_trans HBB.out HST1.out.kept.below.size) HRD1.out HQ1.out.bad);go_wp2_with fail
   try rw[← HWQ1.out]
   refine HC5.out.mono ?_;rintro e w15 ⟨v1,r2,m2,A2,C2,b2,rfl,hm5,hrd5,hs5,hb5⟩;have HST5:=Lib.hid (HST1.out.later hb5.out);have HOWN5:=own_later HOW1.out hb5.out;clear k0 k1 f0 f1 jq fq;have jq:=HST5.out.kept.t8.c2;have fq:=HST5.out.f3.2 2;have k0:=HST5.out.kept.c0;have k1:=HST5.out.kept.c1;have f0:=HST5.out.f0.2 0;have f1:=HST5.out.f0.2 1;obtain⟨wq2,hwq⟩:∃ W,W=((w15.setCell ⟨g+3,2,none⟩ (.string v1)).setCell ⟨g,0,none⟩ (.slice A2 m2 C2)).setCell ⟨g,1,none⟩ (.bool b2):=⟨_,rfl⟩
   have HST2:Hid (StO w g A2 m2 C2 b2 Ap j cp v0 v1 0 wq2):=by unfold Hid;rw[hwq];exact (HST5.out.put2 v1).put A2 m2 C2 b2
   have HM2:=hm5
   have HRD2:Hid (Rd wq2 B 1 A2 m2 C2 (u8s r2)):=by unfold Hid;rw[hwq];exact hrd5.out.below ((((Below.refl B w15).setCell (p:=⟨g+3,2,none⟩) hBg3 _).setCell (p:=⟨g,0,none⟩) hBg _).setCell (p:=⟨g,1,none⟩) hBg _)
   have HQ2:Hid (QS bs 2 ⟨ps,v0,v1,0⟩ r2 b2):=HQ1.out.two hs5.out
   have HOW2:Hid (Own wq2 (g+4) 9 1 Ap j cp (strs ps)):=by unfold Hid;rw[hwq];exact (((HOWN5.set_below (a:=⟨g+3,2,none⟩) (by dsimp only;omega) _).set_below (a:=⟨g,0,none⟩) (by dsimp only;omega) _).set_below (a:=⟨g,1,none⟩) (by dsimp only;omega) _)

   have HWQ2:=Lib.hid hwq;clear hwq hm5 hrd5 hs5 hb5 HC5 HST5 HOWN5 HST1 HRD1 HQ1 HOW1;have HC5:=Lib.hid (numS_any r2 m2 A2 C2 b2 wq2 HM2.out (by have h1:=HQ2.out.le;have h2:=HL.out;have h3:=HM2.out;omega) (Nat.le_trans HBB.out HST2.out.kept.below.size) HRD2.out HQ2.out.bad);go_wp2_with fail
   try rw[← HWQ2.out]
   refine HC5.out.mono ?_;rintro e w25 ⟨v2,r3,m3,A3,C3,b3,rfl,hm5,hrd5,hs5,hb5⟩;have HST5:=Lib.hid (HST2.out.later hb5.out);have HOWN5:=own_later HOW2.out hb5.out;clear k0 k1 f0 f1 jq fq;have jq:=HST5.out.kept.t8.c3;have fq:=HST5.out.f3.2 3;have k0:=HST5.out.kept.c0;have k1:=HST5.out.kept.c1;have f0:=HST5.out.f0.2 0;have f1:=HST5.out.f0.2 1;obtain⟨wq3,hwq⟩:∃ W,W=((w25.setCell ⟨g+3,3,none⟩ (.int .i64 v2)).setCell ⟨g,0,none⟩ (.slice A3 m3 C3)).setCell ⟨g,1,none⟩ (.bool b3):=⟨_,rfl⟩
   have HST3:Hid (StO w g A3 m3 C3 b3 Ap j cp v0 v1 v2 wq3):=by unfold Hid;rw[hwq];exact (HST5.out.put3 v2).put A3 m3 C3 b3
   have HM3:=hm5
   have HRD3:Hid (Rd wq3 B 1 A3 m3 C3 (u8s r3)):=by unfold Hid;rw[hwq];exact hrd5.out.below ((((Below.refl B w25).setCell (p:=⟨g+3,3,none⟩) hBg3 _).setCell (p:=⟨g,0,none⟩) hBg _).setCell (p:=⟨g,1,none⟩) hBg _)
   have HQ3:Hid (QS bs 3 ⟨ps,v0,v1,v2⟩ r3 b3):=HQ2.out.three hs5.out
   have HOW3:Hid (Own wq3 (g+4) 9 1 Ap j cp (strs ps)):=by unfold Hid;rw[hwq];exact (((HOWN5.set_below (a:=⟨g+3,3,none⟩) (by dsimp only;omega) _).set_below (a:=⟨g,0,none⟩) (by dsimp only;omega) _).set_below (a:=⟨g,1,none⟩) (by dsimp only;omega) _)
   have HE0:=HST5;have HWQ3:=Lib.hid hwq;clear hwq hm5 hrd5 hs5 hb5 HC5 HST5 HOWN5 HST2 HRD2 HQ2 HOW2;have HSz:=HST3;have HWQ:=HWQ3
   cases b3 with
   | true=>
    have HNO:=Lib.hid HQ3.out.not;go_wp2_with fail
    try rw[← HWQ.out]
    refine (bad_any16 wq3).mono ?_;rintro e w4 ⟨rfl,hb4⟩;have HS4:=Lib.hid (HSz.out.later hb4.out);clear k0 k1;have g10:=HS4.out.f1.2 0;have g11:=HS4.out.f1.2 1;have g12:=HS4.out.f1.2 2;have g13:=HS4.out.f1.2 3;have g20:=HS4.out.f2.2 0;have g21:=HS4.out.f2.2 1;obtain⟨k0,k1,k2,k3,k4,k5,k6,k7,-⟩:=HS4.out.kept.cj;have k8:=HS4.out.kept.t8.c0;have k9:=HS4.out.kept.t8.c1;have k10:=HS4.out.kept.t8.c2;have k11:=HS4.out.kept.t8.c3;obtain⟨W5,hW5⟩:∃ W,W=(((((w4.setCell ⟨g+1,0,none⟩ (.slice none 0 0)).setCell ⟨g+1,1,none⟩ (.int .i64 0)).setCell ⟨g+1,2,none⟩ (.string ⟨#[]⟩)).setCell ⟨g+1,3,none⟩ (.int .i64 0)).setCell ⟨g+2,0,none⟩ (.slice none 0 0)).setCell ⟨g+2,1,none⟩ (.bool true):=⟨_,rfl⟩
    have l0:W5.cell? ⟨g+1,0,none⟩=some (.slice none 0 0):=by rw[hW5];go_simp
    have l1:W5.cell? ⟨g+1,1,none⟩=some (.int .i64 0):=by rw[hW5];go_simp
    have l2:W5.cell? ⟨g+1,2,none⟩=some (.string ⟨#[]⟩):=by rw[hW5];go_simp
    have l3:W5.cell? ⟨g+1,3,none⟩=some (.int .i64 0):=by rw[hW5];go_simp
    have l4:W5.cell? ⟨g+2,0,none⟩=some (.slice none 0 0):=by rw[hW5];go_simp
    have l5:W5.cell? ⟨g+2,1,none⟩=some (.bool true):=by rw[hW5];go_simp
    have hbz:∀ {B0:Nat} {w0:World},B0≤g+1→Below B0 w0 w4→Below B0 w0 W5:=fun hB h=>by
     rw[hW5];exact ((((((h.setCell (p:=⟨g+1,0,none⟩) (by dsimp only;omega) _).setCell (p:=⟨g+1,1,none⟩) (by dsimp only;omega) _).setCell (p:=⟨g+1,2,none⟩) (by dsimp only;omega) _).setCell (p:=⟨g+1,3,none⟩) (by dsimp only;omega) _).setCell (p:=⟨g+2,0,none⟩) (by dsimp only;omega) _).setCell (p:=⟨g+2,1,none⟩) (by dsimp only;omega) _)
    have HB5:=Lib.hid (hbz (by omega) HS4.out.kept.below);have HW5:=Lib.hid hW5;clear hb4 hW5 hbz;go_wp2;rw[← HW5.out];exact bodyPost_ret (v:=.tuple #[.agg #[.slice none 0 0,.int .i64 0,.string ⟨#[]⟩,.int .i64 0],.agg #[.slice none 0 0,.bool true]]) (by simp[results,Tryz.results51,go_sem,l0,l1,l2,l3,l4,l5]) rfl ⟨⟨[],0,⟨#[]⟩,0⟩,none,0,0,[],0,none,0,true,rfl,rfl,⟨World.ownsRow_nil _ _ _ _,by simp[Tr.strs]⟩,rfl,Rd.nil _,.inr ⟨rfl,rfl,rfl,HNO.out⟩,HB5.out⟩
   | false=>
    obtain⟨z,hz⟩:∃ z,Cs.opE ⟨ps,v0,v1,v2⟩=z:=⟨_,rfl⟩;have HC7:=Lib.hid (Cs.refop_any ps v0 v1 v2 Ap j cp wq3 z hz hK HOW3.out.rd);have HZZ:=Lib.hid hz;have k8:=HE0.out.kept.t8.c0;have k9:=HE0.out.kept.t8.c1;have k10:=HE0.out.kept.t8.c2;clear hz;go_wp2_with fail
    try rw[← HWQ.out]
    refine HC7.out.mono ?_;rintro e w7 ⟨rfl,hb7⟩;have HS30:=HSz.out;have HSz:=Lib.hid (HS30.later hb7);have HO7:=Lib.hid (own_later HOW3.out hb7);have HR7:Hid (Rd w7 B 1 A3 m3 C3 (u8s r3)):=HRD3.out.below (hb7.mono (Nat.le_trans HBB.out HS30.kept.below.size));clear hb7 HS30 HC7 k0 k1 k8 k9 k10 f0 f1 jq fq;have k0:=HSz.out.kept.c0;have k1:=HSz.out.kept.c1
    by_cases hz0:z=0
    ·subst hz0
     clear k0 k1;have g10:=HSz.out.f1.2 0;have g11:=HSz.out.f1.2 1;have g12:=HSz.out.f1.2 2;have g13:=HSz.out.f1.2 3;have g20:=HSz.out.f2.2 0;have g21:=HSz.out.f2.2 1;obtain⟨k0,k1,k2,k3,k4,k5,k6,k7,-⟩:=HSz.out.kept.cj;have k8:=HSz.out.kept.t8.c0;have k9:=HSz.out.kept.t8.c1;have k10:=HSz.out.kept.t8.c2;have k11:=HSz.out.kept.t8.c3;obtain⟨W5,hW5⟩:∃ W,W=(((((w7.setCell ⟨g+1,0,none⟩ (.slice Ap j cp)).setCell ⟨g+1,1,none⟩ (.int .i64 v0)).setCell ⟨g+1,2,none⟩ (.string v1)).setCell ⟨g+1,3,none⟩ (.int .i64 v2)).setCell ⟨g+2,0,none⟩ (.slice A3 m3 C3)).setCell ⟨g+2,1,none⟩ (.bool false):=⟨_,rfl⟩
     have l0:W5.drew.cell? ⟨g+1,0,none⟩=some (.slice Ap j cp):=by rw[hW5];go_simp
     have l1:W5.drew.cell? ⟨g+1,1,none⟩=some (.int .i64 v0):=by rw[hW5];go_simp
     have l2:W5.drew.cell? ⟨g+1,2,none⟩=some (.string v1):=by rw[hW5];go_simp
     have l3:W5.drew.cell? ⟨g+1,3,none⟩=some (.int .i64 v2):=by rw[hW5];go_simp
     have l4:W5.drew.cell? ⟨g+2,0,none⟩=some (.slice A3 m3 C3):=by rw[hW5];go_simp
     have l5:W5.drew.cell? ⟨g+2,1,none⟩=some (.bool false):=by rw[hW5];go_simp
     have hbz:∀ {B0:Nat} {w0:World},B0≤g+1→Below B0 w0 w7→Below B0 w0 W5.drew:=fun hB h=>by
      rw[hW5];exact ((((((h.setCell (p:=⟨g+1,0,none⟩) (by dsimp only;omega) _).setCell (p:=⟨g+1,1,none⟩) (by dsimp only;omega) _).setCell (p:=⟨g+1,2,none⟩) (by dsimp only;omega) _).setCell (p:=⟨g+1,3,none⟩) (by dsimp only;omega) _).setCell (p:=⟨g+2,0,none⟩) (by dsimp only;omega) _).setCell (p:=⟨g+2,1,none⟩) (by dsimp only;omega) _).drew
     have HB5:=Lib.hid (hbz (by omega) HSz.out.kept.below);have HRD5:Hid (Rd W5.drew B 1 A3 m3 C3 (u8s r3)):=HR7.out.below (hbz (by omega) (Below.refl B _))
     have HO5:Hid (Own W5.drew w.heap.size 9 1 Ap j cp (strs ps)):=by
      unfold Hid;rw[hW5];exact (own_later ((((((HO7.out.set_below (a:=⟨g+1,0,none⟩) (by dsimp only;omega) _).set_below (a:=⟨g+1,1,none⟩) (by dsimp only;omega) _).set_below (a:=⟨g+1,2,none⟩) (by dsimp only;omega) _).set_below (a:=⟨g+1,3,none⟩) (by dsimp only;omega) _).set_below (a:=⟨g+2,0,none⟩) (by dsimp only;omega) _).set_below (a:=⟨g+2,1,none⟩) (by dsimp only;omega) _) (bel_drewN (Below.refl _ _) 1)).mono (by omega)
     have HOK:Hid (OpS bs ⟨ps,v0,v1,v2⟩ r3 false):=.inl ⟨rfl,HQ3.out.all,Cs.opE_zero.1 HZZ.out⟩;have HW5:=Lib.hid hW5;clear hW5 hbz;go_wp2_with fail
     go_region
     all_goals
      go_wp2;rw[← HW5.out];exact bodyPost_ret (v:=.tuple #[.agg #[.slice Ap j cp,.int .i64 v0,.string v1,.int .i64 v2],.agg #[.slice A3 m3 C3,.bool false]]) (by simp[results,Tryz.results51,go_sem,l0,l1,l2,l3,l4,l5]) rfl ⟨⟨ps,v0,v1,v2⟩,Ap,j,cp,r3,m3,A3,C3,false,rfl,HPS.out,HO5.out,HM3.out,HRD5.out,HOK.out,HB5.out⟩
    ·have fz:(z==0)=false:=by simpa using hz0
     have HNO:=Lib.hid (HQ3.out.no (fun h=>hz0 (HZZ.out.symm.trans (Cs.opE_zero.2 h))));go_wp2_with fail;refine (bad_any16 w7).mono ?_;rintro e w4 ⟨rfl,hb4⟩;have HS4:=Lib.hid (HSz.out.later hb4.out);clear k0 k1;have g10:=HS4.out.f1.2 0;have g11:=HS4.out.f1.2 1;have g12:=HS4.out.f1.2 2;have g13:=HS4.out.f1.2 3;have g20:=HS4.out.f2.2 0;have g21:=HS4.out.f2.2 1;obtain⟨k0,k1,k2,k3,k4,k5,k6,k7,-⟩:=HS4.out.kept.cj;have k8:=HS4.out.kept.t8.c0;have k9:=HS4.out.kept.t8.c1;have k10:=HS4.out.kept.t8.c2;have k11:=HS4.out.kept.t8.c3;obtain⟨W5,hW5⟩:∃ W,W=(((((w4.setCell ⟨g+1,0,none⟩ (.slice none 0 0)).setCell ⟨g+1,1,none⟩ (.int .i64 0)).setCell ⟨g+1,2,none⟩ (.string ⟨#[]⟩)).setCell ⟨g+1,3,none⟩ (.int .i64 0)).setCell ⟨g+2,0,none⟩ (.slice none 0 0)).setCell ⟨g+2,1,none⟩ (.bool true):=⟨_,rfl⟩
     have l0:W5.cell? ⟨g+1,0,none⟩=some (.slice none 0 0):=by rw[hW5];go_simp
     have l1:W5.cell? ⟨g+1,1,none⟩=some (.int .i64 0):=by rw[hW5];go_simp
     have l2:W5.cell? ⟨g+1,2,none⟩=some (.string ⟨#[]⟩):=by rw[hW5];go_simp
     have l3:W5.cell? ⟨g+1,3,none⟩=some (.int .i64 0):=by rw[hW5];go_simp
     have l4:W5.cell? ⟨g+2,0,none⟩=some (.slice none 0 0):=by rw[hW5];go_simp
     have l5:W5.cell? ⟨g+2,1,none⟩=some (.bool true):=by rw[hW5];go_simp
     have hbz:∀ {B0:Nat} {w0:World},B0≤g+1→Below B0 w0 w4→Below B0 w0 W5:=fun hB h=>by
      rw[hW5];exact ((((((h.setCell (p:=⟨g+1,0,none⟩) (by dsimp only;omega) _).setCell (p:=⟨g+1,1,none⟩) (by dsimp only;omega) _).setCell (p:=⟨g+1,2,none⟩) (by dsimp only;omega) _).setCell (p:=⟨g+1,3,none⟩) (by dsimp only;omega) _).setCell (p:=⟨g+2,0,none⟩) (by dsimp only;omega) _).setCell (p:=⟨g+2,1,none⟩) (by dsimp only;omega) _)
     have HB5:=Lib.hid (hbz (by omega) HS4.out.kept.below);have HW5:=Lib.hid hW5;clear hb4 hW5 hbz;go_wp2;rw[← HW5.out];exact bodyPost_ret (v:=.tuple #[.agg #[.slice none 0 0,.int .i64 0,.string ⟨#[]⟩,.int .i64 0],.agg #[.slice none 0 0,.bool true]]) (by simp[results,Tryz.results51,go_sem,l0,l1,l2,l3,l4,l5]) rfl ⟨⟨[],0,⟨#[]⟩,0⟩,none,0,0,[],0,none,0,true,rfl,rfl,⟨World.ownsRow_nil _ _ _ _,by simp[Tr.strs]⟩,rfl,Rd.nil _,.inr ⟨rfl,rfl,rfl,HNO.out⟩,HB5.out⟩
end Pk
end Go.Proofs.YtcbpgemiffmieaaGreat
namespace Go.Proofs.YtcbpgemiffmieaaGreat
open Go.ChangeShapes Go.WideShapes Go.ChangeAt Go.RowKit
namespace Pk
open Tr Cx Cs Sp Rw Codec
theorem got_ctx {bs rest:List UInt8} {c:List S3} {b:Bool} (h:CtxS bs c rest b):Got ctxB RightC [] bs c rest b:=by
 rcases h with ⟨rfl,e,hc⟩ | ⟨rfl,e,e2,hn⟩
 ·exact⟨.inl ⟨rfl,e⟩,fun _=>hc,fun h=>by cases h⟩
 ·exact⟨.inr ⟨rfl,e,hn⟩,(fun h=>by cases h),fun _=>e2⟩
theorem got_tree {bs rest:List UInt8} {c:T} {b:Bool} (h:ToTreeS bs c rest b):Got treeB (RightT 5) none_ bs c rest b:=by
 rcases h with ⟨rfl,e,hc⟩ | ⟨rfl,e,e2,hn⟩
 ·exact⟨.inl ⟨rfl,e⟩,fun _=>hc,fun h=>by cases h⟩
 ·exact⟨.inr ⟨rfl,e,hn⟩,(fun h=>by cases h),fun _=>e2⟩
theorem got_caus {bs rest:List UInt8} {c:K} {b:Bool} (h:CausS bs c rest b):Got causB RK (none_,[]) bs c rest b:=by
 rcases h with ⟨rfl,e,hc⟩ | ⟨rfl,e,e2,hn⟩
 ·exact⟨.inl ⟨rfl,e⟩,fun _=>hc,fun h=>by cases h⟩
 ·exact⟨.inr ⟨rfl,e,hn⟩,(fun h=>by cases h),fun _=>e2⟩
theorem got_op {bs rest:List UInt8} {c:OpM} {b:Bool} (h:OpS bs c rest b):Got opB OpOk ⟨[],0,⟨#[]⟩,0⟩ bs c rest b:=by
 rcases h with ⟨rfl,e,hc⟩ | ⟨rfl,e,e2,hn⟩
 ·exact⟨.inl ⟨rfl,e⟩,fun _=>hc,fun h=>by cases h⟩
 ·exact⟨.inr ⟨rfl,e,hn⟩,(fun h=>by cases h),fun _=>e2⟩
theorem may_of {y:V4} (h0:MayB y.1) (h1:MayB y.2.1) (h2:MayB y.2.2.1) (h3:MayB y.2.2.2):MayP y:=fun d hd=>by
 rcases (by omega:d=0∨d=1∨d=2∨d=3)with rfl | rfl | rfl | rfl
 ·exact h0
 ·exact h1
 ·exact h2
 ·exact h3
theorem got_vec {bs rest:List UInt8} {y0 y1 y2 y3:Int} {b:Bool} (h:VecS bs y0 y1 y2 y3 rest b):Got v4B MayP (0,0,0,0) bs (y0,y1,y2,y3) rest b:=by
 rcases h with ⟨rfl,e,h0,h1,h2,h3⟩ | ⟨rfl,e,⟨rfl,rfl,rfl,rfl⟩,hn⟩
 ·exact⟨.inl ⟨rfl,e⟩,fun _=>may_of h0 h1 h2 h3,fun h=>by cases h⟩
 ·exact⟨.inr ⟨rfl,e,fun y z hy=>hn y.1 y.2.1 y.2.2.1 y.2.2.2 z (hy 0 (by omega)) (hy 1 (by omega)) (hy 2 (by omega)) (hy 3 (by omega))⟩,(fun h=>by cases h),fun _=>rfl⟩
def GetP (B a:Nat) (w:World) (e:Ending) (w':World):Prop:=∃ (r2:List UInt8) (b2:Bool) (A2:Option Addr) (m2 c2:Nat),e = .returned (.tuple #[.agg #[.slice A2 m2 c2,.bool b2],.bool true])∧Hid (Gt a w [] [] r2 b2 w')∧Hid (r2.length=m2)∧Hid (Rd w' B 1 A2 m2 c2 (u8s r2))∧Hid (m2≤1000)
theorem got_le_ctx {bs rest:List UInt8} {c:List S3} {b:Bool} (h:Got ctxB RightC [] bs c rest b):c.length≤bs.length:=by
 cases hb:b with
 | true=>rw[h.2.2 hb];simp
 | false=>
  rcases h.1 with ⟨_,e⟩ | ⟨e,_⟩
  ·have h2:=congrArg List.length e
   have h3:=list_len (f:=spB) (l:=c) fun s _=>sp_pos s;unfold ctxB listB at h2;simp only[List.length_append]at h2;omega
  ·rw[hb]at e;cases e
theorem got_le_tree {bs rest:List UInt8} {c:T} {b:Bool} (h:Got treeB (RightT 5) none_ bs c rest b):nodes c≤bs.length:=by
 cases hb:b with
 | true=>rw[h.2.2 hb];simp[none_,nodes_mk]
 | false=>
  rcases h.1 with ⟨_,e⟩ | ⟨e,_⟩
  ·have h2:=congrArg List.length e
   have h3:=nodes_le c;rw[List.length_append]at h2;omega
  ·rw[hb]at e;cases e
theorem got_le_caus {bs rest:List UInt8} {t:T} {c:List S3} {b:Bool} (h:Got causB RK (none_,[]) bs (t,c) rest b):nodes t≤bs.length∧c.length≤bs.length:=by
 cases hb:b with
 | true=>
  have e:=h.2.2 hb;injection e with e1 e2;rw[e1,e2];simp[none_,nodes_mk]
 | false=>
  rcases h.1 with ⟨_,e⟩ | ⟨e,_⟩
  ·have h2:=congrArg List.length e
   have h3:=nodes_le t;have h4:=list_len (f:=spB) (l:=c) fun s _=>sp_pos s;unfold causB ctxB listB at h2;simp only[List.length_append]at h2;omega
  ·rw[hb]at e;cases e
theorem got_le_op {bs rest:List UInt8} {o:OpM} {b:Bool} (h:Got opB OpOk ⟨[],0,⟨#[]⟩,0⟩ bs o rest b):o.path.length≤bs.length:=by
 cases hb:b with
 | true=>rw[h.2.2 hb];simp
 | false=>
  rcases h.1 with ⟨_,e⟩ | ⟨e,_⟩
  ·have h2:=congrArg List.length e
   have h3:=list_len (f:=txtB) (l:=o.path) fun s _=>txtB_pos s;unfold opB listB at h2;simp only[List.length_append]at h2;omega
  ·rw[hb]at e;cases e
end Pk
end Go.Proofs.YtcbpgemiffmieaaGreat
namespace Go.Proofs.YtcbpgemiffmieaaGreat
open Go.ChangeShapes Go.WideShapes Go.ChangeAt Go.RowKit
namespace Pk
open Tr Cx Cs Sp Rw Codec
set_option maxRecDepth 100000 in
set_option maxHeartbeats 4000000 in
theorem sameop_any (p q:List ByteArray) (a b:Int) (s t:ByteArray) (n m:Int) (A B:Option Addr) (np cp nq cq:Nat) (w:World) (z:Bool) (hz:z=decide (p=q∧a=b∧s=t∧n=m)) (hn:np≤100000) (hp:Rd w w.heap.size 1 A np cp (Tr.strs p)) (hq:Rd w w.heap.size 1 B nq cq (Tr.strs q)) :
  Calls Tryz.prog 29 #[.agg #[.slice A np cp,.int .i64 a,.string s,.int .i64 n],.agg #[.slice B nq cq,.int .i64 b,.string t,.int .i64 m]] w fun e w'=>e = .returned (.bool z)∧Below w.heap.size w w':=by
 obtain⟨g,hg⟩:∃ g,g=w.heap.size:=⟨_,rfl⟩;obtain⟨W,hW⟩:∃ W,W=(w.alloc (.cells #[.slice A np cp,.int .i64 a,.string s,.int .i64 n] 40)).alloc (.cells #[.slice B nq cq,.int .i64 b,.string t,.int .i64 m] 40):=⟨_,rfl⟩
 have hbW:Below w.heap.size w W:=by
  rw[hW];exact ((Below.refl _ _).alloc (Nat.le_refl _) _).alloc (by simp) _
 have HK:Hid (Kept [(⟨g,0,none⟩,.slice A np cp),(⟨g,1,none⟩,.int .i64 a),(⟨g,2,none⟩,.string s),(⟨g,3,none⟩,.int .i64 n),(⟨g+1,0,none⟩,.slice B nq cq),(⟨g+1,1,none⟩,.int .i64 b),(⟨g+1,2,none⟩,.string t),(⟨g+1,3,none⟩,.int .i64 m)] w W):=by
  have h1:=Kept.nil_of hbW
  refine ((((((((h1.cons_of ?_).cons_of ?_).cons_of ?_).cons_of ?_).cons_of ?_).cons_of ?_).cons_of ?_).cons_of ?_) <;> (rw[hW,hg];go_simp)
 have HLP:=Lib.hid (rd_len1 hp);have HLQ:=Lib.hid (rd_len1 hq);have HP:=Lib.hid hp;have HQ:=Lib.hid hq;have HZ:=Lib.hid hz;have HW:=Lib.hid hW;have HG:=Lib.hid hg;obtain⟨k0,k1,k2,k3,k4,k5,k6,k7,-⟩:=HK.out.cj;clear hp hq hz hW hg hbW
 by_cases e1:np=nq
 ·subst e1
  by_cases e2:a=b
  ·subst e2
   by_cases e3:s=t
   ·subst e3
    by_cases e4:n=m
    ·subst e4
     go_enter Tryz.func29,Tryz.ntmps29;go_wp2_with fail
     try rw[← HW.out]
     try rw[← HG.out]
     clear k0 k1 k2 k3 k4 k5 k6 k7
     go_loopw [37] (fun x wr=>∃ (k:Nat),x = .int .i64 k∧k≤np∧Hid (p.take k=q.take k)∧Hid (Kept [(⟨g,0,none⟩,.slice A np cp),(⟨g,1,none⟩,.int .i64 a),(⟨g,2,none⟩,.string s),(⟨g,3,none⟩,.int .i64 n),(⟨g+1,0,none⟩,.slice B np cq),(⟨g+1,1,none⟩,.int .i64 a),(⟨g+1,2,none⟩,.string s),(⟨g+1,3,none⟩,.int .i64 n)] w wr)) (fun x _=>np-(intOf x).toNat)
     case atStart=>exact⟨0,rfl,Nat.zero_le _,by simp[Hid],HK.out⟩
     case round=>
      obtain⟨k,rfl,hk,HT,HKW⟩:=hrel;clear HK HW;have HBW:=Lib.hid HKW.out.below
      by_cases hlt:k<np
      ·have hkp:k<p.length:=by rw[HLP.out];exact hlt
       have hkq:k<q.length:=by rw[HLQ.out];exact hlt
       obtain⟨bp,op,rfl,hbp,hcp⟩:=rd_text HP.out (show 0<np by omega);obtain⟨bq,oq,rfl,hbq,hcq⟩:=rd_text HQ.out (show 0<np by omega);have c0:=(HBW.out.cell (p:=⟨bp,op+k,none⟩) hbp).trans (hcp k hkp);have c1:=(HBW.out.cell (p:=⟨bq,oq+k,none⟩) hbq).trans (hcq k hkq);have k0:=HKW.out.c0;have k4:=HKW.out.c4
       have hki:(k:Int)<np:=by omega
       have HSP:=Lib.hid (List.take_succ_eq_append_getElem hkp);have HSQ:=Lib.hid (List.take_succ_eq_append_getElem hkq);have hpg:Hid (p[k]?=some p[k]):=List.getElem?_eq_getElem hkp;have hqg:Hid (q[k]?=some q[k]):=List.getElem?_eq_getElem hkq;obtain⟨x,hx⟩:∃ x,x=p[k]:=⟨_,rfl⟩;obtain⟨y,hy⟩:∃ y,y=q[k]:=⟨_,rfl⟩;rw[← hx]at c0 HSP hpg;rw[← hy]at c1 HSQ hqg;clear hcp hcq hx hy
       by_cases hxy:x=y
       ·subst hxy
        have HT2:Hid (p.take (k+1)=q.take (k+1)):=by unfold Hid;rw[HSP.out,HSQ.out,HT.out]
        go_wp2_with fail
        go_quiet (fail)
        go_wp2_with fail;go_roundw
        case rel=>exact⟨k+1,by go_num,by omega,HT2.out,HKW.out.drewN _⟩
        case measure=>simp[intOf];omega
       ·have f5:(x.toList==y.toList)=false:=bytes_ne hxy
        have HE:Hid (false=z):=by
         unfold Hid;rw[HZ.out];refine Eq.symm <| decide_eq_false fun h=>hxy ?_;have h1:=hpg.out;rw[h.1,hqg.out]at h1;injection h1 with h1;exact h1.symm
        clear hxy;go_wp2_with fail
        go_quiet (fail)
        go_wp2;go_ret;exact⟨ret_bool HE.out,bel_drewN HBW.out _⟩
      ·have HE:Hid (true=z):=by
        unfold Hid;rw[HZ.out];refine Eq.symm <| decide_eq_true ?_;have h1:=HT.out;rw[List.take_of_length_le (by rw[HLP.out];omega),List.take_of_length_le (by rw[HLQ.out];omega)]at h1;simp[h1]
       go_wp2;go_ret;exact⟨ret_bool HE.out,HBW.out⟩
    ·have f4:(n==m)=false:=by simpa using e4
     have HE:Hid (false=z):=by unfold Hid;rw[HZ.out];exact Eq.symm <| decide_eq_false fun h=>e4 h.2.2.2
     have HB:=Lib.hid HK.out.below;go_enter Tryz.func29,Tryz.ntmps29;go_wp2;go_ret;rw[← HW.out];exact⟨ret_bool HE.out,HB.out⟩
   ·have f3:(s.toList==t.toList)=false:=bytes_ne e3
    have HE:Hid (false=z):=by unfold Hid;rw[HZ.out];exact Eq.symm <| decide_eq_false fun h=>e3 h.2.2.1
    have HB:=Lib.hid HK.out.below;clear e3;go_enter Tryz.func29,Tryz.ntmps29;go_wp2;go_ret;rw[← HW.out];exact⟨ret_bool HE.out,HB.out⟩
  ·have f2:(a==b)=false:=by simpa using e2
   have HE:Hid (false=z):=by unfold Hid;rw[HZ.out];exact Eq.symm <| decide_eq_false fun h=>e2 h.2.1
   have HB:=Lib.hid HK.out.below;go_enter Tryz.func29,Tryz.ntmps29;go_wp2;go_ret;rw[← HW.out];exact⟨ret_bool HE.out,HB.out⟩
 ·have f1:((np:Int)==(nq:Int))=false:=by simp;omega
  have f1':(np==nq)=false:=by simpa using e1
  have HE:Hid (false=z):=by
   unfold Hid;rw[HZ.out];refine Eq.symm <| decide_eq_false fun h=>e1 ?_;rw[← HLP.out,← HLQ.out,h.1]
  have HB:=Lib.hid HK.out.below;go_enter Tryz.func29,Tryz.ntmps29;go_wp2;go_ret;rw[← HW.out];exact⟨ret_bool HE.out,HB.out⟩
end Pk
end Go.Proofs.YtcbpgemiffmieaaGreat
namespace Go.Proofs.YtcbpgemiffmieaaGreat
open Go.ChangeShapes Go.WideShapes Go.ChangeAt Go.RowKit
namespace Pk
open Tr Cx Cs Sp Rw Codec
set_option maxRecDepth 100000 in
set_option maxHeartbeats 4000000 in
theorem get_any16 (kd:Int) (n:Nat) (A:Option Addr) (c:Nat) {w:World} {B a:Nat} {r:List UInt8} {bad:Bool} (h:InC w [] [] a r bad) (hl:r.length=n) (hn:n≤1000) (hBa:B≤a) (hr:Rd w B 1 A n c (u8s r)) :
  Calls Tryz.prog 14 #[.pointer (some ⟨a,0,none⟩),.agg #[.slice A n c,.bool bad],.int .u8 kd] w (GetP B a w):=by
 have HO:=Lib.hid h;have HL:=Lib.hid hl;have HRD:=Lib.hid hr;have hb0:=h.at_.none_;have HB0:=Lib.hid hb0;have HG0:=Lib.hid (Gt.refl h);have haw:=h.at_.lt
 have hBw:B≤w.heap.size:=by omega
 have hrl:r.length≤100000:=by omega
 have HCAP:=Lib.hid (cap_few (bs:=r) (by omega));clear h hl hr hb0;obtain⟨p,hp⟩:∃ p,p=w.heap.size:=⟨_,rfl⟩;obtain⟨s,hs⟩:∃ s,s=p+1:=⟨_,rfl⟩;obtain⟨W,hW⟩:∃ W,W=(w.alloc (.cells #[.slice A n c,.bool bad] 51)).alloc (.cells #[.slice none 0 0,.bool false] 51):=⟨_,rfl⟩
 have hbW:Below w.heap.size w W:=by rw[hW];exact ((Below.refl _ _).alloc (Nat.le_refl _) _).alloc (by simp) _
 have HG1:Hid (Gt a w ([(⟨p,0,none⟩,.slice A n c),(⟨p,1,none⟩,.bool bad),(⟨s,0,none⟩,.slice none 0 0),(⟨s,1,none⟩,.bool false)]++[]) ([p,s]++[]) r bad W):=by
  refine HG0.out.add hbW ?_ ?_
  ·intro x hx
   simp only[List.mem_cons,List.not_mem_nil,or_false]at hx
   rcases hx with rfl | rfl | rfl | rfl <;> exact⟨by dsimp only;omega,by rw[hW];simp <;> omega,by rw[hW];(try rw[hs]);rw[hp];go_simp⟩
  ·intro x hx
   simp only[List.mem_cons,List.not_mem_nil,or_false]at hx
   rcases hx with rfl | rfl
   ·exact⟨by omega,by rw[hW,hp];simp <;> omega,fun j=>by rw[hW,hp];go_simp⟩
   ·exact⟨by omega,by rw[hW,hs,hp];simp,fun j=>by rw[hW,hs,hp];go_simp⟩
 have HPW:Hid (w.heap.size≤p):=by unfold Hid;omega
 have HSW:Hid (w.heap.size≤s):=by unfold Hid;omega
 have hsp:¬s=p:=by omega
 have hps:¬p=s:=by omega
 have HR1:Hid (Rd W B 1 A n c (u8s r)):=HRD.out.below (hbW.mono hBw);have hBW:B≤W.heap.size:=Nat.le_trans hBw hbW.size;have haW:a<W.heap.size:=Nat.lt_of_lt_of_le haw hbW.size;have HW:=Lib.hid hW;have Hp:=Lib.hid hp;have Hs:=Lib.hid hs;have k0:=HG1.out.cell (p:=⟨p,0,none⟩) (v:=.slice A n c) (by simp);have k1:=HG1.out.cell (p:=⟨p,1,none⟩) (v:=.bool bad) (by simp);clear hp hs hW hbW HG0
 by_cases f0:kd=0
 ·have g0:(kd==0)=true:=by rw[beq_iff_eq];exact f0
  clear f0;go_enter Tryz.func14,Tryz.ntmps14;go_wp2_with fail;rw[← HW.out]
  try rw[← Hp.out]
  try rw[← Hs.out]
  refine (toctx_any r n A c bad W HL.out (by omega) hBW HR1.out HB0.out).mono ?_;rintro e w1 ⟨x,rest,ln,Al,cl,mq,Aq,cq,bq,rfl,hlc,hoc,hm,hrd,hS,hb1⟩;have HG2:=Lib.hid (HG1.out.later hb1.out);have HRR:Hid (Rd w1 B 1 Aq mq cq (u8s rest)):=hrd.out;have HM:Hid (rest.length=mq):=hm.out;have HGD:=Lib.hid (got_ctx hS.out);have HBQ:Hid (bq=true→rest=[]):=HGD.out.bad;have HXO:Hid (Own w1 W.heap.size 100 3 Al ln cl (spsC x)):=hoc.out
  have HLX:Hid (x.length≤100000):=by have h1:=got_le_ctx HGD.out;have:=HL.out;unfold Hid;omega
  clear HG1 HR1 k0 k1 hoc hS hm hrd;obtain⟨j,hj⟩:∃ g,g=w1.heap.size:=⟨_,rfl⟩;obtain⟨WN,hWN⟩:∃ W,W=(w1.alloc (.cells #[.slice Aq mq cq,.bool bq] 51)):=⟨_,rfl⟩
  have hbN:Below w1.heap.size w1 WN:=by rw[hWN];exact (Below.refl _ _).alloc (Nat.le_refl _) _
  have HG3:Hid (Gt a w ([(⟨j,0,none⟩,.slice Aq mq cq),(⟨j,1,none⟩,.bool bq)]++([(⟨p,0,none⟩,.slice A n c),(⟨p,1,none⟩,.bool bad),(⟨s,0,none⟩,.slice none 0 0),(⟨s,1,none⟩,.bool false)]++[])) ([]++([p,s]++[])) r bad WN):=by
   refine HG2.out.add hbN ?_ (by simp);intro x hx;simp only[List.mem_cons,List.not_mem_nil,or_false]at hx
   rcases hx with rfl | rfl <;> exact⟨by dsimp only;omega,by rw[hWN];simp <;> omega,by rw[hWN];rw[hj];go_simp⟩
  have HRN:Hid (Rd WN B 1 Aq mq cq (u8s rest)):=HRR.out.below (hbN.mono (by have h1:=HG2.out.2.size;omega));have HXO:Hid (Own WN W.heap.size 100 3 Al ln cl (spsC x)):=own_later HXO.out hbN;have Hj:=Lib.hid hj

  have HWN:=Lib.hid hWN
  have hjs:¬j=s:=by
   have h1:=(HG2.out.1.free s (by simp)).1.1;omega
  have hsj:¬s=j:=fun h=>hjs h.symm;clear HG2 HRR hWN hbN hj ;go_wp2_with fail;rw[← HWN.out]
  try rw[← Hj.out]

  refine wp_region_held_drew (S:=fun W=>W.cell? ⟨j,0,none⟩=some (.slice Aq mq cq)∧W.cell? ⟨j,1,none⟩=some (.bool bq)) (by kernel_rfl) (by exact⟨(HG3.out.later (bel_drewN (Below.refl _ _) 1)).cell (p:=⟨j,0,none⟩) (v:=.slice Aq mq cq) (by simp),(HG3.out.later (bel_drewN (Below.refl _ _) 1)).cell (p:=⟨j,1,none⟩) (v:=.bool bq) (by simp)⟩) (fun hHeld=>?_);obtain⟨wz,hwz,hbz⟩:=drq WN;have HGS:=Lib.hid (HG3.out.later hbz);have HRS:Hid (Rd wz B 1 Aq mq cq (u8s rest)):=HRN.out.below (hbz.mono (by have h1:=HG3.out.2.size;omega));have HXO:Hid (Own wz W.heap.size 100 3 Al ln cl (spsC x)):=own_later HXO.out hbz;rw[← hwz]at hHeld ⊢;clear hwz hbz HG3 HRN;refine Tk 0 25 ?_;refine Tk 1 26 ?_;refine Tk 3 28 ?_;refine Tc 2 (fun K hK=>?_);go_simp;refine (getctx_any hrl HGS.out.1).mono ?_;rintro e v1 ⟨u,nu,cu,Au,r2,b2,rfl,hlu,hou,HG2,HS⟩
  obtain⟨rfl,rfl,rfl⟩:=Got.uniq pre_ctx HGD.out HS.out;have HG:=Lib.hid (HGS.out.trans HG2.out);have HRV:Hid (Rd v1 B 1 Aq mq cq (u8s rest)):=HRS.out.below (gb_below HG2.out.2 hBa (by have h1:=HGS.out.2.size;omega));have HXO:Hid (Own v1 W.heap.size 100 3 Al ln cl (spsC x)):=own_gb HXO.out HG2.out.2 haW;clear HG2;clear hHeld;refine Th hK ?_ (fun hHeld=>?_)
  ·exact⟨HG.out.cell (p:=⟨j,0,none⟩) (v:=.slice Aq mq cq) (by simp),HG.out.cell (p:=⟨j,1,none⟩) (v:=.bool bq) (by simp)⟩
  clear hK K;refine Tc 4 (fun K hK=>?_);go_simp;refine (refsameC_any x x nu ln Au Al cu cl v1 hlu.out hlc.out (by have h1:=hlu.out;have h2:=HLX.out;omega) hou.out.rd HXO.out.rd true (by simp)).mono ?_;rintro e v2 ⟨rfl,hb9⟩;have HGL:=Lib.hid (HG.out.later hb9);have HRL:Hid (Rd v2 B 1 Aq mq cq (u8s rest)):=HRV.out.below (hb9.mono (by have h1:=HG.out.2.size;omega));clear hb9 HG HRV;have n0:=HGL.out.cell (p:=⟨s,0,none⟩) (v:=.slice none 0 0) (by simp);have n1:=HGL.out.cell (p:=⟨s,1,none⟩) (v:=.bool false) (by simp);have f0:=(HGL.out.1.free s (by simp)).1.2 0;have f1:=(HGL.out.1.free s (by simp)).1.2 1;have m0:=HGL.out.cell (p:=⟨j,0,none⟩) (v:=.slice Aq mq cq) (by simp);have m1:=HGL.out.cell (p:=⟨j,1,none⟩) (v:=.bool bq) (by simp);obtain⟨W9,hW9⟩:∃ W,W=((v2.setCell ⟨s,0,none⟩ (.slice Aq mq cq)).setCell ⟨s,1,none⟩ (.bool bq)):=⟨_,rfl⟩
  have HB9:Hid (Below w.heap.size v2 W9):=by unfold Hid;rw[hW9];exact ((Below.refl w.heap.size v2).setCell (p:=⟨s,0,none⟩) HSW.out _).setCell (p:=⟨s,1,none⟩) HSW.out _
  have HG9:Hid (Gt a w [] [] rest bq W9):=(HGL.out.sub (l2:=[]) (F2:=[]) (by simp) (by simp)).low HO.out HB9.out;have HR9:Hid (Rd W9 B 1 Aq mq cq (u8s rest)):=HRL.out.below (HB9.out.mono hBw)
  have l0:W9.cell? ⟨s,0,none⟩=some (.slice Aq mq cq):=by rw[hW9];go_simp
  have l1:W9.cell? ⟨s,1,none⟩=some (.bool bq):=by rw[hW9];go_simp
  have HMQ:Hid (mq≤1000):=by have h1:=HGD.out.le;have h2:=HM.out;have h3:=HL.out;unfold Hid;omega
  have HW9:=Lib.hid hW9;clear hW9;clear hHeld;refine Th hK ?_ (fun hHeld=>?_)
  ·exact⟨HGL.out.cell (p:=⟨j,0,none⟩) (v:=.slice Aq mq cq) (by simp),HGL.out.cell (p:=⟨j,1,none⟩) (v:=.bool bq) (by simp)⟩
  clear hK K;refine Tc 5 (fun K hK=>?_);go_simp;refine Th hK ?_ (fun hHeld2=>?_)
  ·refine⟨?_,?_⟩ <;> go_simp
  clear hK K hHeld;have hHeld:=hHeld2;clear hHeld2;refine Tk 6 7 ?_;refine wpAnyH_done (by kernel_rfl) ?_ _;clear hHeld;go_wp2;rw[← HW9.out];exact bodyPost_ret (v:=.tuple #[.agg #[.slice Aq mq cq,.bool bq],.bool true]) (by simp[results,Tryz.results14,go_sem,l0,l1]) rfl ⟨rest,bq,Aq,mq,cq,rfl,HG9,HM,HR9,HMQ⟩
 by_cases f1:kd=1
 ·have g0:(kd==0)=false:=by rw[beq_eq_false_iff_ne];omega
  have g1:(kd==1)=true:=by rw[beq_iff_eq];exact f1
  clear f0 f1;go_enter Tryz.func14,Tryz.ntmps14;go_wp2_with fail;rw[← HW.out]
  try rw[← Hp.out]
  try rw[← Hs.out]
  refine (totree_any r n A c bad W HL.out (by omega) hBW HR1.out HB0.out).mono ?_;rintro e w1 ⟨x,Ae,ne,ce,Ak,nk,ck,rest,mq,Aq,cq,bq,rfl,hro,hm,hrd,hS,hb1⟩;have HG2:=Lib.hid (HG1.out.later hb1);have HRR:Hid (Rd w1 B 1 Aq mq cq (u8s rest)):=hrd;have HM:Hid (rest.length=mq):=hm;have HGD:=Lib.hid (got_tree hS);have HBQ:Hid (bq=true→rest=[]):=HGD.out.bad;have HXT:Hid (RdO w1 (fun z=>W.heap.size≤z) x ⟨Ae,ne,ce⟩ ⟨Ak,nk,ck⟩):=hro
  have HLX:Hid (nodes x≤1000):=by have h1:=got_le_tree HGD.out;have:=HL.out;unfold Hid;omega
  clear HG1 HR1 k0 k1 hro hS hm hrd;obtain⟨y,hy⟩:∃ g,g=w1.heap.size:=⟨_,rfl⟩;obtain⟨j,hj⟩:∃ g,g=y+1:=⟨_,rfl⟩;obtain⟨WN,hWN⟩:∃ W,W=((w1.alloc (.cells #[.slice Ae ne ce,.slice Ak nk ck] 35)).alloc (.cells #[.slice Aq mq cq,.bool bq] 51)):=⟨_,rfl⟩
  have hbN:Below w1.heap.size w1 WN:=by rw[hWN];exact ((Below.refl _ _).alloc (Nat.le_refl _) _).alloc (by simp) _
  have HG3:Hid (Gt a w ([(⟨y,0,none⟩,.slice Ae ne ce),(⟨y,1,none⟩,.slice Ak nk ck),(⟨j,0,none⟩,.slice Aq mq cq),(⟨j,1,none⟩,.bool bq)]++([(⟨p,0,none⟩,.slice A n c),(⟨p,1,none⟩,.bool bad),(⟨s,0,none⟩,.slice none 0 0),(⟨s,1,none⟩,.bool false)]++[])) ([]++([p,s]++[])) r bad WN):=by
   refine HG2.out.add hbN ?_ (by simp);intro x hx;simp only[List.mem_cons,List.not_mem_nil,or_false]at hx
   rcases hx with rfl | rfl | rfl | rfl <;> exact⟨by dsimp only;omega,by rw[hWN];simp <;> omega,by rw[hWN];(try rw[hj]);rw[hy];go_simp⟩
  have HRN:Hid (Rd WN B 1 Aq mq cq (u8s rest)):=HRR.out.below (hbN.mono (by have h1:=HG2.out.2.size;omega));have HXT:Hid (RdO WN (fun z=>W.heap.size≤z) x ⟨Ae,ne,ce⟩ ⟨Ak,nk,ck⟩):=HXT.out.later hbN;have Hy:=Lib.hid hy;have Hj:=Lib.hid hj;have HWN:=Lib.hid hWN
  have hjs:¬j=s:=by
   have h1:=(HG2.out.1.free s (by simp)).1.1;omega
  have hsj:¬s=j:=fun h=>hjs h.symm
  have hys:¬y=s:=by
   have h1:=(HG2.out.1.free s (by simp)).1.1;omega
  have hsy:¬s=y:=fun h=>hys h.symm;clear HG2 HRR hWN hbN hy hj;go_wp2_with fail;rw[← HWN.out]
  try rw[← Hy.out]
  try rw[← Hj.out]
  refine wp_region_held_drew (S:=fun W=>W.cell? ⟨y,0,none⟩=some (.slice Ae ne ce)∧W.cell? ⟨y,1,none⟩=some (.slice Ak nk ck)∧W.cell? ⟨j,0,none⟩=some (.slice Aq mq cq)∧W.cell? ⟨j,1,none⟩=some (.bool bq)) (by kernel_rfl) (by exact⟨(HG3.out.later (bel_drewN (Below.refl _ _) 1)).cell (p:=⟨y,0,none⟩) (v:=.slice Ae ne ce) (by simp),(HG3.out.later (bel_drewN (Below.refl _ _) 1)).cell (p:=⟨y,1,none⟩) (v:=.slice Ak nk ck) (by simp),(HG3.out.later (bel_drewN (Below.refl _ _) 1)).cell (p:=⟨j,0,none⟩) (v:=.slice Aq mq cq) (by simp),(HG3.out.later (bel_drewN (Below.refl _ _) 1)).cell (p:=⟨j,1,none⟩) (v:=.bool bq) (by simp)⟩) (fun hHeld=>?_);obtain⟨wz,hwz,hbz⟩:=drq WN;have HGS:=Lib.hid (HG3.out.later hbz);have HRS:Hid (Rd wz B 1 Aq mq cq (u8s rest)):=HRN.out.below (hbz.mono (by have h1:=HG3.out.2.size;omega));have HXT:Hid (RdO wz (fun z=>W.heap.size≤z) x ⟨Ae,ne,ce⟩ ⟨Ak,nk,ck⟩):=HXT.out.later hbz
  rw[← hwz]at hHeld ⊢;clear hwz hbz HG3 HRN;refine Tk 0 37 ?_;refine Tk 1 38 ?_;refine Tk 3 40 ?_;refine Tc 2 (fun K hK=>?_);go_simp;refine (gettree_any hrl HGS.out.1).mono ?_;rintro e v1 ⟨u,⟨Au,nu,cu⟩,⟨Bu,mu,du⟩,r2,b2,rfl,hru,HG2,HS⟩;obtain⟨rfl,rfl,rfl⟩:=Got.uniq pre_tree HGD.out HS.out;have HG:=Lib.hid (HGS.out.trans HG2.out);have HRV:Hid (Rd v1 B 1 Aq mq cq (u8s rest)):=HRS.out.below (gb_below HG2.out.2 hBa (by have h1:=HGS.out.2.size;omega));have HXT:Hid (RdO v1 (fun z=>W.heap.size≤z) x ⟨Ae,ne,ce⟩ ⟨Ak,nk,ck⟩):=rdO_gb HXT.out HG2.out.2 (fun z hz=>by omega);clear HG2;refine hK.out _ _ ?_ (fun hHeld2=>?_)
  ·exact⟨HG.out.cell (p:=⟨y,0,none⟩) (v:=.slice Ae ne ce) (by simp),HG.out.cell (p:=⟨y,1,none⟩) (v:=.slice Ak nk ck) (by simp),HG.out.cell (p:=⟨j,0,none⟩) (v:=.slice Aq mq cq) (by simp),HG.out.cell (p:=⟨j,1,none⟩) (v:=.bool bq) (by simp)⟩
  clear hK K hHeld;have hHeld:=hHeld2;clear hHeld2
  try simp only[]
  refine Tc 4 (fun K hK=>?_);go_simp;have heq:eqB x x=true:=eqB_yes rfl;refine (refsameT_any x x Au Bu nu mu cu du Ae Ak ne nk ce ck v1 (by have:=HLX.out;omega) (RdO.rd _ hru.out) (RdO.rd _ HXT.out)).mono ?_;rw[heq];rintro e v2 ⟨rfl,hb9⟩;have HGL:=Lib.hid (HG.out.later hb9);have HRL:Hid (Rd v2 B 1 Aq mq cq (u8s rest)):=HRV.out.below (hb9.mono (by have h1:=HG.out.2.size;omega));clear hb9 HG HRV;have n0:=HGL.out.cell (p:=⟨s,0,none⟩) (v:=.slice none 0 0) (by simp);have n1:=HGL.out.cell (p:=⟨s,1,none⟩) (v:=.bool false) (by simp);have f0:=(HGL.out.1.free s (by simp)).1.2 0;have f1:=(HGL.out.1.free s (by simp)).1.2 1;have m0:=HGL.out.cell (p:=⟨y,0,none⟩) (v:=.slice Ae ne ce) (by simp);have m1:=HGL.out.cell (p:=⟨y,1,none⟩) (v:=.slice Ak nk ck) (by simp);have m2:=HGL.out.cell (p:=⟨j,0,none⟩) (v:=.slice Aq mq cq) (by simp)
  have m3:=HGL.out.cell (p:=⟨j,1,none⟩) (v:=.bool bq) (by simp);obtain⟨W9,hW9⟩:∃ W,W=((v2.setCell ⟨s,0,none⟩ (.slice Aq mq cq)).setCell ⟨s,1,none⟩ (.bool bq)):=⟨_,rfl⟩
  have HB9:Hid (Below w.heap.size v2 W9):=by unfold Hid;rw[hW9];exact ((Below.refl w.heap.size v2).setCell (p:=⟨s,0,none⟩) HSW.out _).setCell (p:=⟨s,1,none⟩) HSW.out _
  have HG9:Hid (Gt a w [] [] rest bq W9):=(HGL.out.sub (l2:=[]) (F2:=[]) (by simp) (by simp)).low HO.out HB9.out;have HR9:Hid (Rd W9 B 1 Aq mq cq (u8s rest)):=HRL.out.below (HB9.out.mono hBw)
  have l0:W9.cell? ⟨s,0,none⟩=some (.slice Aq mq cq):=by rw[hW9];go_simp
  have l1:W9.cell? ⟨s,1,none⟩=some (.bool bq):=by rw[hW9];go_simp
  have HMQ:Hid (mq≤1000):=by have h1:=HGD.out.le;have h2:=HM.out;have h3:=HL.out;unfold Hid;omega
  have HW9:=Lib.hid hW9;clear hW9;clear hHeld;refine Th hK ?_ (fun hHeld=>?_)
  ·exact⟨HGL.out.cell (p:=⟨y,0,none⟩) (v:=.slice Ae ne ce) (by simp),HGL.out.cell (p:=⟨y,1,none⟩) (v:=.slice Ak nk ck) (by simp),HGL.out.cell (p:=⟨j,0,none⟩) (v:=.slice Aq mq cq) (by simp),HGL.out.cell (p:=⟨j,1,none⟩) (v:=.bool bq) (by simp)⟩
  clear hK K;refine Tc 5 (fun K hK=>?_);go_simp;refine Th hK ?_ (fun hHeld2=>?_)
  ·refine⟨?_,?_,?_,?_⟩ <;> go_simp
  clear hK K hHeld;have hHeld:=hHeld2;clear hHeld2;refine Tk 6 7 ?_;refine wpAnyH_done (by kernel_rfl) ?_ _;clear hHeld;go_wp2;rw[← HW9.out];exact bodyPost_ret (v:=.tuple #[.agg #[.slice Aq mq cq,.bool bq],.bool true]) (by simp[results,Tryz.results14,go_sem,l0,l1]) rfl ⟨rest,bq,Aq,mq,cq,rfl,HG9,HM,HR9,HMQ⟩
 by_cases f2:kd=2
 ·have g0:(kd==0)=false:=by rw[beq_eq_false_iff_ne];omega
  have g1:(kd==1)=false:=by rw[beq_eq_false_iff_ne];omega
  have g2:(kd==2)=true:=by rw[beq_iff_eq];exact f2
  clear f0 f1 f2;go_enter Tryz.func14,Tryz.ntmps14;go_wp2_with fail;rw[← HW.out]
  try rw[← Hp.out]
  try rw[← Hs.out]
  refine (tocaus_any r n A c bad W HL.out (by omega) hBW HR1.out HB0.out).mono ?_;rintro e w1 ⟨⟨x,xc⟩,Ae,ne,ce,Ak,nk,ck,Ca,na,ca,rest,mq,Aq,cq,bq,rfl,hro,hlc,hoc,hm,hrd,hS,hb1⟩;have HG2:=Lib.hid (HG1.out.later hb1);have HRR:Hid (Rd w1 B 1 Aq mq cq (u8s rest)):=hrd;have HM:Hid (rest.length=mq):=hm;have HGD:=Lib.hid (got_caus hS);have HBQ:Hid (bq=true→rest=[]):=HGD.out.bad;have HXT:Hid (RdO w1 (fun z=>W.heap.size≤z) x ⟨Ae,ne,ce⟩ ⟨Ak,nk,ck⟩):=hro;have HXO:Hid (Own w1 W.heap.size 100 3 Ca na ca (spsC xc)):=hoc
  have HLX:Hid (nodes x≤1000∧xc.length≤1000):=by have h1:=got_le_caus HGD.out;have:=HL.out;unfold Hid;omega
  have HLC:Hid (xc.length=na):=hlc;clear HG1 HR1 k0 k1 hro hoc hS hm hrd;obtain⟨y,hy⟩:∃ g,g=w1.heap.size:=⟨_,rfl⟩;obtain⟨j,hj⟩:∃ g,g=y+1:=⟨_,rfl⟩;obtain⟨WN,hWN⟩:∃ W,W=((w1.alloc (.cells #[.slice Ae ne ce,.slice Ak nk ck,.slice Ca na ca] 37)).alloc (.cells #[.slice Aq mq cq,.bool bq] 51)):=⟨_,rfl⟩
  have hbN:Below w1.heap.size w1 WN:=by rw[hWN];exact ((Below.refl _ _).alloc (Nat.le_refl _) _).alloc (by simp) _
  have HG3:Hid (Gt a w ([(⟨y,0,none⟩,.slice Ae ne ce),(⟨y,1,none⟩,.slice Ak nk ck),(⟨y,2,none⟩,.slice Ca na ca),(⟨j,0,none⟩,.slice Aq mq cq),(⟨j,1,none⟩,.bool bq)]++([(⟨p,0,none⟩,.slice A n c),(⟨p,1,none⟩,.bool bad),(⟨s,0,none⟩,.slice none 0 0),(⟨s,1,none⟩,.bool false)]++[])) ([]++([p,s]++[])) r bad WN):=by
   refine HG2.out.add hbN ?_ (by simp);intro x hx;simp only[List.mem_cons,List.not_mem_nil,or_false]at hx
   rcases hx with rfl | rfl | rfl | rfl | rfl <;> exact⟨by dsimp only;omega,by rw[hWN];simp <;> omega,by rw[hWN];(try rw[hj]);rw[hy];go_simp⟩
  have HRN:Hid (Rd WN B 1 Aq mq cq (u8s rest)):=HRR.out.below (hbN.mono (by have h1:=HG2.out.2.size;omega));have HXT:Hid (RdO WN (fun z=>W.heap.size≤z) x ⟨Ae,ne,ce⟩ ⟨Ak,nk,ck⟩):=HXT.out.later hbN;have HXO:Hid (Own WN W.heap.size 100 3 Ca na ca (spsC xc)):=own_later HXO.out hbN;have Hy:=Lib.hid hy;have Hj:=Lib.hid hj;have HWN:=Lib.hid hWN
  have hjs:¬j=s:=by
   have h1:=(HG2.out.1.free s (by simp)).1.1;omega
  have hsj:¬s=j:=fun h=>hjs h.symm
  have hys:¬y=s:=by
   have h1:=(HG2.out.1.free s (by simp)).1.1;omega
  have hsy:¬s=y:=fun h=>hys h.symm;clear HG2 HRR hWN hbN hy hj;go_wp2_with fail;rw[← HWN.out]
  try rw[← Hy.out]
  try rw[← Hj.out]
  refine wp_region_held_drew (S:=fun W=>W.cell? ⟨y,0,none⟩=some (.slice Ae ne ce)∧W.cell? ⟨y,1,none⟩=some (.slice Ak nk ck)∧W.cell? ⟨y,2,none⟩=some (.slice Ca na ca)∧W.cell? ⟨j,0,none⟩=some (.slice Aq mq cq)∧W.cell? ⟨j,1,none⟩=some (.bool bq)) (by kernel_rfl) (by exact⟨(HG3.out.later (bel_drewN (Below.refl _ _) 1)).cell (p:=⟨y,0,none⟩) (v:=.slice Ae ne ce) (by simp),(HG3.out.later (bel_drewN (Below.refl _ _) 1)).cell (p:=⟨y,1,none⟩) (v:=.slice Ak nk ck) (by simp),(HG3.out.later (bel_drewN (Below.refl _ _) 1)).cell (p:=⟨y,2,none⟩) (v:=.slice Ca na ca) (by simp),(HG3.out.later (bel_drewN (Below.refl _ _) 1)).cell (p:=⟨j,0,none⟩) (v:=.slice Aq mq cq) (by simp),(HG3.out.later (bel_drewN (Below.refl _ _) 1)).cell (p:=⟨j,1,none⟩) (v:=.bool bq) (by simp)⟩) (fun hHeld=>?_);obtain⟨wz,hwz,hbz⟩:=drq WN;have HGS:=Lib.hid (HG3.out.later hbz)
  have HRS:Hid (Rd wz B 1 Aq mq cq (u8s rest)):=HRN.out.below (hbz.mono (by have h1:=HG3.out.2.size;omega));have HXT:Hid (RdO wz (fun z=>W.heap.size≤z) x ⟨Ae,ne,ce⟩ ⟨Ak,nk,ck⟩):=HXT.out.later hbz;have HXO:Hid (Own wz W.heap.size 100 3 Ca na ca (spsC xc)):=own_later HXO.out hbz;rw[← hwz]at hHeld ⊢;clear hwz hbz HG3 HRN;refine Tk 0 49 ?_;refine Tk 1 50 ?_;refine Tk 3 52 ?_;refine Tc 2 (fun K hK=>?_);go_simp;refine (getcaus_any hrl HCAP.out HGS.out.1).mono ?_;rintro e v1 ⟨u,⟨Au,nu,cu⟩,⟨Bu,mu,du⟩,⟨Cu,ou,eu⟩,r2,b2,rfl,hru,hlu,hou,HG2,HS⟩;obtain⟨rfl,rfl,rfl⟩:=Got.uniq pre_caus HGD.out HS.out;have HG:=Lib.hid (HGS.out.trans HG2.out);have HRV:Hid (Rd v1 B 1 Aq mq cq (u8s rest)):=HRS.out.below (gb_below HG2.out.2 hBa (by have h1:=HGS.out.2.size;omega));have HXT:Hid (RdO v1 (fun z=>W.heap.size≤z) x ⟨Ae,ne,ce⟩ ⟨Ak,nk,ck⟩):=rdO_gb HXT.out HG2.out.2 (fun z hz=>by omega)
  have HXO:Hid (Own v1 W.heap.size 100 3 Ca na ca (spsC xc)):=own_gb HXO.out HG2.out.2 haW;clear HG2;refine hK.out _ _ ?_ (fun hHeld2=>?_)
  ·exact⟨HG.out.cell (p:=⟨y,0,none⟩) (v:=.slice Ae ne ce) (by simp),HG.out.cell (p:=⟨y,1,none⟩) (v:=.slice Ak nk ck) (by simp),HG.out.cell (p:=⟨y,2,none⟩) (v:=.slice Ca na ca) (by simp),HG.out.cell (p:=⟨j,0,none⟩) (v:=.slice Aq mq cq) (by simp),HG.out.cell (p:=⟨j,1,none⟩) (v:=.bool bq) (by simp)⟩
  clear hK K hHeld;have hHeld:=hHeld2;clear hHeld2
  try simp only[]
  refine Tc 4 (fun K hK=>?_);go_simp;refine (refsameK_any x x xc xc Au Bu Cu Ae Ak Ca nu mu cu du ou eu ne nk ce ck na ca v1 true (by simp) (by have:=HLX.out;omega) hlu.out (by have h1:xc.length=ou:=hlu.out;have:=HLX.out;omega) (RdO.rd _ hru.out) hou.out.rd HLC.out (RdO.rd _ HXT.out) HXO.out.rd).mono ?_;rintro e v2 ⟨rfl,hb9⟩;have HGL:=Lib.hid (HG.out.later hb9);have HRL:Hid (Rd v2 B 1 Aq mq cq (u8s rest)):=HRV.out.below (hb9.mono (by have h1:=HG.out.2.size;omega));clear hb9 HG HRV;have n0:=HGL.out.cell (p:=⟨s,0,none⟩) (v:=.slice none 0 0) (by simp);have n1:=HGL.out.cell (p:=⟨s,1,none⟩) (v:=.bool false) (by simp);have f0:=(HGL.out.1.free s (by simp)).1.2 0;have f1:=(HGL.out.1.free s (by simp)).1.2 1;have m0:=HGL.out.cell (p:=⟨y,0,none⟩) (v:=.slice Ae ne ce) (by simp);have m1:=HGL.out.cell (p:=⟨y,1,none⟩) (v:=.slice Ak nk ck) (by simp)
  have m2:=HGL.out.cell (p:=⟨y,2,none⟩) (v:=.slice Ca na ca) (by simp);have m3:=HGL.out.cell (p:=⟨j,0,none⟩) (v:=.slice Aq mq cq) (by simp);have m4:=HGL.out.cell (p:=⟨j,1,none⟩) (v:=.bool bq) (by simp);obtain⟨W9,hW9⟩:∃ W,W=((v2.setCell ⟨s,0,none⟩ (.slice Aq mq cq)).setCell ⟨s,1,none⟩ (.bool bq)):=⟨_,rfl⟩
  have HB9:Hid (Below w.heap.size v2 W9):=by unfold Hid;rw[hW9];exact ((Below.refl w.heap.size v2).setCell (p:=⟨s,0,none⟩) HSW.out _).setCell (p:=⟨s,1,none⟩) HSW.out _
  have HG9:Hid (Gt a w [] [] rest bq W9):=(HGL.out.sub (l2:=[]) (F2:=[]) (by simp) (by simp)).low HO.out HB9.out;have HR9:Hid (Rd W9 B 1 Aq mq cq (u8s rest)):=HRL.out.below (HB9.out.mono hBw)
  have l0:W9.cell? ⟨s,0,none⟩=some (.slice Aq mq cq):=by rw[hW9];go_simp
  have l1:W9.cell? ⟨s,1,none⟩=some (.bool bq):=by rw[hW9];go_simp
  have HMQ:Hid (mq≤1000):=by have h1:=HGD.out.le;have h2:=HM.out;have h3:=HL.out;unfold Hid;omega
  have HW9:=Lib.hid hW9;clear hW9;clear hHeld;refine Th hK ?_ (fun hHeld=>?_)
  ·exact⟨HGL.out.cell (p:=⟨y,0,none⟩) (v:=.slice Ae ne ce) (by simp),HGL.out.cell (p:=⟨y,1,none⟩) (v:=.slice Ak nk ck) (by simp),HGL.out.cell (p:=⟨y,2,none⟩) (v:=.slice Ca na ca) (by simp),HGL.out.cell (p:=⟨j,0,none⟩) (v:=.slice Aq mq cq) (by simp),HGL.out.cell (p:=⟨j,1,none⟩) (v:=.bool bq) (by simp)⟩
  clear hK K;refine Tc 5 (fun K hK=>?_);go_simp;refine Th hK ?_ (fun hHeld2=>?_)
  ·refine⟨?_,?_,?_,?_,?_⟩ <;> go_simp
  clear hK K hHeld;have hHeld:=hHeld2;clear hHeld2;refine Tk 6 7 ?_;refine wpAnyH_done (by kernel_rfl) ?_ _;clear hHeld;go_wp2;rw[← HW9.out];exact bodyPost_ret (v:=.tuple #[.agg #[.slice Aq mq cq,.bool bq],.bool true]) (by simp[results,Tryz.results14,go_sem,l0,l1]) rfl ⟨rest,bq,Aq,mq,cq,rfl,HG9,HM,HR9,HMQ⟩
 by_cases f3:kd=3
 ·have g0:(kd==0)=false:=by rw[beq_eq_false_iff_ne];omega
  have g1:(kd==1)=false:=by rw[beq_eq_false_iff_ne];omega
  have g2:(kd==2)=false:=by rw[beq_eq_false_iff_ne];omega
  have g3:(kd==3)=true:=by rw[beq_iff_eq];exact f3
  clear f0 f1 f2 f3;go_enter Tryz.func14,Tryz.ntmps14;go_wp2_with fail;rw[← HW.out]
  try rw[← Hp.out]
  try rw[← Hs.out]
  refine (toop_any r n A c bad W HL.out (by omega) hBW HR1.out HB0.out).mono ?_;rintro e w1 ⟨x,Ap,np,cp,rest,mq,Aq,cq,bq,rfl,hlp,hop,hm,hrd,hS,hb1⟩;have HG2:=Lib.hid (HG1.out.later hb1);have HRR:Hid (Rd w1 B 1 Aq mq cq (u8s rest)):=hrd;have HM:Hid (rest.length=mq):=hm;have HGD:=Lib.hid (got_op hS);have HBQ:Hid (bq=true→rest=[]):=HGD.out.bad;have HXO:Hid (Own w1 W.heap.size 9 1 Ap np cp (Tr.strs x.path)):=hop
  have HLX:Hid (x.path.length≤1000):=by have h1:=got_le_op HGD.out;have:=HL.out;unfold Hid;omega
  clear HG1 HR1 k0 k1 hop hS hm hrd;obtain⟨y,hy⟩:∃ g,g=w1.heap.size:=⟨_,rfl⟩;obtain⟨j,hj⟩:∃ g,g=y+1:=⟨_,rfl⟩;obtain⟨WN,hWN⟩:∃ W,W=((w1.alloc (.cells #[.slice Ap np cp,.int .i64 x.act,.string x.s,.int .i64 x.n] 40)).alloc (.cells #[.slice Aq mq cq,.bool bq] 51)):=⟨_,rfl⟩
  have hbN:Below w1.heap.size w1 WN:=by rw[hWN];exact ((Below.refl _ _).alloc (Nat.le_refl _) _).alloc (by simp) _
  have HG3:Hid (Gt a w ([(⟨y,0,none⟩,.slice Ap np cp),(⟨y,1,none⟩,.int .i64 x.act),(⟨y,2,none⟩,.string x.s),(⟨y,3,none⟩,.int .i64 x.n),(⟨j,0,none⟩,.slice Aq mq cq),(⟨j,1,none⟩,.bool bq)]++([(⟨p,0,none⟩,.slice A n c),(⟨p,1,none⟩,.bool bad),(⟨s,0,none⟩,.slice none 0 0),(⟨s,1,none⟩,.bool false)]++[])) ([]++([p,s]++[])) r bad WN):=by
   refine HG2.out.add hbN ?_ (by simp);intro x hx;simp only[List.mem_cons,List.not_mem_nil,or_false]at hx
   rcases hx with rfl | rfl | rfl | rfl | rfl | rfl <;> exact⟨by dsimp only;omega,by rw[hWN];simp <;> omega,by rw[hWN];(try rw[hj]);rw[hy];go_simp⟩
  have HRN:Hid (Rd WN B 1 Aq mq cq (u8s rest)):=HRR.out.below (hbN.mono (by have h1:=HG2.out.2.size;omega));have HXO:Hid (Own WN W.heap.size 9 1 Ap np cp (Tr.strs x.path)):=own_later HXO.out hbN;have Hy:=Lib.hid hy;have Hj:=Lib.hid hj;have HWN:=Lib.hid hWN
  have hjs:¬j=s:=by
   have h1:=(HG2.out.1.free s (by simp)).1.1;omega
  have hsj:¬s=j:=fun h=>hjs h.symm
  have hys:¬y=s:=by
   have h1:=(HG2.out.1.free s (by simp)).1.1;omega
  have hsy:¬s=y:=fun h=>hys h.symm;clear HG2 HRR hWN hbN hy hj;go_wp2_with fail;rw[← HWN.out]
  try rw[← Hy.out]
  try rw[← Hj.out]
  refine wp_region_held_drew (S:=fun W=>W.cell? ⟨y,0,none⟩=some (.slice Ap np cp)∧W.cell? ⟨y,1,none⟩=some (.int .i64 x.act)∧W.cell? ⟨y,2,none⟩=some (.string x.s)∧W.cell? ⟨y,3,none⟩=some (.int .i64 x.n)∧W.cell? ⟨j,0,none⟩=some (.slice Aq mq cq)∧W.cell? ⟨j,1,none⟩=some (.bool bq)) (by kernel_rfl) (by exact⟨(HG3.out.later (bel_drewN (Below.refl _ _) 1)).cell (p:=⟨y,0,none⟩) (v:=.slice Ap np cp) (by simp),(HG3.out.later (bel_drewN (Below.refl _ _) 1)).cell (p:=⟨y,1,none⟩) (v:=.int .i64 x.act) (by simp),(HG3.out.later (bel_drewN (Below.refl _ _) 1)).cell (p:=⟨y,2,none⟩) (v:=.string x.s) (by simp),(HG3.out.later (bel_drewN (Below.refl _ _) 1)).cell (p:=⟨y,3,none⟩) (v:=.int .i64 x.n) (by simp),(HG3.out.later (bel_drewN (Below.refl _ _) 1)).cell (p:=⟨j,0,none⟩) (v:=.slice Aq mq cq) (by simp),(HG3.out.later (bel_drewN (Below.refl _ _) 1)).cell (p:=⟨j,1,none⟩) (v:=.bool bq) (by simp)⟩) (fun hHeld=>?_)
  obtain⟨wz,hwz,hbz⟩:=drq WN;have HGS:=Lib.hid (HG3.out.later hbz);have HRS:Hid (Rd wz B 1 Aq mq cq (u8s rest)):=HRN.out.below (hbz.mono (by have h1:=HG3.out.2.size;omega));have HXO:Hid (Own wz W.heap.size 9 1 Ap np cp (Tr.strs x.path)):=own_later HXO.out hbz;rw[← hwz]at hHeld ⊢;clear hwz hbz HG3 HRN;refine Tk 0 61 ?_;refine Tk 1 62 ?_;refine Tk 3 64 ?_;refine Tc 2 (fun K hK=>?_);go_simp;refine (getop_any hrl HGS.out.1).mono ?_;rintro e v1 ⟨u,Au,nu,cu,r2,b2,rfl,hou,HG2,HS⟩;obtain⟨rfl,rfl,rfl⟩:=Got.uniq pre_opB HGD.out HS.out;have HG:=Lib.hid (HGS.out.trans HG2.out);have HRV:Hid (Rd v1 B 1 Aq mq cq (u8s rest)):=HRS.out.below (gb_below HG2.out.2 hBa (by have h1:=HGS.out.2.size;omega));have HXO:Hid (Own v1 W.heap.size 9 1 Ap np cp (Tr.strs x.path)):=own_gb HXO.out HG2.out.2 haW;clear HG2;clear hHeld;refine Th hK ?_ (fun hHeld=>?_)
  ·exact⟨HG.out.cell (p:=⟨y,0,none⟩) (v:=.slice Ap np cp) (by simp),HG.out.cell (p:=⟨y,1,none⟩) (v:=.int .i64 x.act) (by simp),HG.out.cell (p:=⟨y,2,none⟩) (v:=.string x.s) (by simp),HG.out.cell (p:=⟨y,3,none⟩) (v:=.int .i64 x.n) (by simp),HG.out.cell (p:=⟨j,0,none⟩) (v:=.slice Aq mq cq) (by simp),HG.out.cell (p:=⟨j,1,none⟩) (v:=.bool bq) (by simp)⟩
  clear hK K;refine Tc 4 (fun K hK=>?_);go_simp;refine (sameop_any x.path x.path x.act x.act x.s x.s x.n x.n Au Ap nu cu np cp v1 true (by simp) (by have h1:=rd_len1 hou.out.rd;have h2:=HLX.out;omega) hou.out.rd HXO.out.rd).mono ?_;rintro e v2 ⟨rfl,hb9⟩;have HGL:=Lib.hid (HG.out.later hb9);have HRL:Hid (Rd v2 B 1 Aq mq cq (u8s rest)):=HRV.out.below (hb9.mono (by have h1:=HG.out.2.size;omega));clear hb9 HG HRV;have n0:=HGL.out.cell (p:=⟨s,0,none⟩) (v:=.slice none 0 0) (by simp);have n1:=HGL.out.cell (p:=⟨s,1,none⟩) (v:=.bool false) (by simp);have f0:=(HGL.out.1.free s (by simp)).1.2 0;have f1:=(HGL.out.1.free s (by simp)).1.2 1;have m0:=HGL.out.cell (p:=⟨y,0,none⟩) (v:=.slice Ap np cp) (by simp);have m1:=HGL.out.cell (p:=⟨y,1,none⟩) (v:=.int .i64 x.act) (by simp);have m2:=HGL.out.cell (p:=⟨y,2,none⟩) (v:=.string x.s) (by simp)
  have m3:=HGL.out.cell (p:=⟨y,3,none⟩) (v:=.int .i64 x.n) (by simp);have m4:=HGL.out.cell (p:=⟨j,0,none⟩) (v:=.slice Aq mq cq) (by simp);have m5:=HGL.out.cell (p:=⟨j,1,none⟩) (v:=.bool bq) (by simp);obtain⟨W9,hW9⟩:∃ W,W=((v2.setCell ⟨s,0,none⟩ (.slice Aq mq cq)).setCell ⟨s,1,none⟩ (.bool bq)):=⟨_,rfl⟩
  have HB9:Hid (Below w.heap.size v2 W9):=by unfold Hid;rw[hW9];exact ((Below.refl w.heap.size v2).setCell (p:=⟨s,0,none⟩) HSW.out _).setCell (p:=⟨s,1,none⟩) HSW.out _
  have HG9:Hid (Gt a w [] [] rest bq W9):=(HGL.out.sub (l2:=[]) (F2:=[]) (by simp) (by simp)).low HO.out HB9.out;have HR9:Hid (Rd W9 B 1 Aq mq cq (u8s rest)):=HRL.out.below (HB9.out.mono hBw)
  have l0:W9.cell? ⟨s,0,none⟩=some (.slice Aq mq cq):=by rw[hW9];go_simp
  have l1:W9.cell? ⟨s,1,none⟩=some (.bool bq):=by rw[hW9];go_simp
  have HMQ:Hid (mq≤1000):=by have h1:=HGD.out.le;have h2:=HM.out;have h3:=HL.out;unfold Hid;omega
  have HW9:=Lib.hid hW9;clear hW9;clear hHeld;refine Th hK ?_ (fun hHeld=>?_)
  ·exact⟨HGL.out.cell (p:=⟨y,0,none⟩) (v:=.slice Ap np cp) (by simp),HGL.out.cell (p:=⟨y,1,none⟩) (v:=.int .i64 x.act) (by simp),HGL.out.cell (p:=⟨y,2,none⟩) (v:=.string x.s) (by simp),HGL.out.cell (p:=⟨y,3,none⟩) (v:=.int .i64 x.n) (by simp),HGL.out.cell (p:=⟨j,0,none⟩) (v:=.slice Aq mq cq) (by simp),HGL.out.cell (p:=⟨j,1,none⟩) (v:=.bool bq) (by simp)⟩
  clear hK K;refine Tc 5 (fun K hK=>?_);go_simp;refine Th hK ?_ (fun hHeld2=>?_)
  ·refine⟨?_,?_,?_,?_,?_,?_⟩ <;> go_simp
  clear hK K hHeld;have hHeld:=hHeld2;clear hHeld2;refine Tk 6 7 ?_;refine wpAnyH_done (by kernel_rfl) ?_ _;clear hHeld;go_wp2;rw[← HW9.out];exact bodyPost_ret (v:=.tuple #[.agg #[.slice Aq mq cq,.bool bq],.bool true]) (by simp[results,Tryz.results14,go_sem,l0,l1]) rfl ⟨rest,bq,Aq,mq,cq,rfl,HG9,HM,HR9,HMQ⟩
 have g0:(kd==0)=false:=by rw[beq_eq_false_iff_ne];omega
 have g1:(kd==1)=false:=by rw[beq_eq_false_iff_ne];omega
 have g2:(kd==2)=false:=by rw[beq_eq_false_iff_ne];omega
 have g3:(kd==3)=false:=by rw[beq_eq_false_iff_ne];omega
 clear f0 f1 f2 f3;go_enter Tryz.func14,Tryz.ntmps14;go_wp2_with fail;rw[← HW.out]
 try rw[← Hp.out]
 try rw[← Hs.out]
 refine (tovec_any r n A c bad W HL.out (by omega) hBW HR1.out HB0.out).mono ?_;rintro e w1 ⟨y0,y1,y2,y3,rest,mq,Aq,cq,bq,rfl,hm,hrd,hS,hb1⟩;have HG2:=Lib.hid (HG1.out.later hb1.out);have HRR:Hid (Rd w1 B 1 Aq mq cq (u8s rest)):=hrd.out;have HM:Hid (rest.length=mq):=hm.out;have HGD:=Lib.hid (got_vec hS.out);have HBQ:Hid (bq=true→rest=[]):=HGD.out.bad;clear HG1 HR1 k0 k1 hS hm hrd;obtain⟨y,hy⟩:∃ g,g=w1.heap.size:=⟨_,rfl⟩;obtain⟨wp,hwp⟩:∃ W,W=w1.alloc (.cells #[.int .i64 y0,.int .i64 y1,.int .i64 y2,.int .i64 y3] 42):=⟨_,rfl⟩
 have hbp:Below w1.heap.size w1 wp:=by rw[hwp];exact Dt.box_below _ _ _
 have HGP:Hid (Gt a w ([(⟨y,0,none⟩,.int .i64 y0),(⟨y,1,none⟩,.int .i64 y1),(⟨y,2,none⟩,.int .i64 y2),(⟨y,3,none⟩,.int .i64 y3)]++([(⟨p,0,none⟩,.slice A n c),(⟨p,1,none⟩,.bool bad),(⟨s,0,none⟩,.slice none 0 0),(⟨s,1,none⟩,.bool false)]++[])) ([]++([p,s]++[])) r bad wp):=by
  refine HG2.out.add hbp ?_ (by simp);intro x hx;simp only[List.mem_cons,List.not_mem_nil,or_false]at hx
  rcases hx with rfl | rfl | rfl | rfl <;> exact⟨by dsimp only;omega,by rw[hwp];simp <;> omega,by rw[hwp,hy];go_simp⟩
 have hyp:¬y=p:=by
  have h1:=(HG2.out.1.free p (by simp)).1.1;omega
 have hys:¬y=s:=by
  have h1:=(HG2.out.1.free s (by simp)).1.1;omega
 have hpy:¬p=y:=fun h=>hyp h.symm;have hsy:¬s=y:=fun h=>hys h.symm;have k0:=HGP.out.cell (p:=⟨p,0,none⟩) (v:=.slice A n c) (by simp);have k1:=HGP.out.cell (p:=⟨p,1,none⟩) (v:=.bool bad) (by simp);have f0:=(HGP.out.1.free p (by simp)).1.2 0;have f1:=(HGP.out.1.free p (by simp)).1.2 1;rw[hwp]at k0 k1 f0 f1;obtain⟨WN,hWN⟩:∃ W,W=(wp.setCell ⟨p,0,none⟩ (.slice Aq mq cq)).setCell ⟨p,1,none⟩ (.bool bq):=⟨_,rfl⟩
 have HG3:Hid (Gt a w ([(⟨y,0,none⟩,.int .i64 y0),(⟨y,1,none⟩,.int .i64 y1),(⟨y,2,none⟩,.int .i64 y2),(⟨y,3,none⟩,.int .i64 y3),(⟨p,0,none⟩,.slice Aq mq cq),(⟨p,1,none⟩,.bool bq),(⟨s,0,none⟩,.slice none 0 0),(⟨s,1,none⟩,.bool false)]:List (Addr×Value)) ([]++([p,s]++[])) r bad WN):=by
  have h1:=HGP.out.setc haw HPW.out (j:=0) (u:=.slice Aq mq cq) (l2:=([(⟨y,0,none⟩,.int .i64 y0),(⟨y,1,none⟩,.int .i64 y1),(⟨y,2,none⟩,.int .i64 y2),(⟨y,3,none⟩,.int .i64 y3),(⟨p,0,none⟩,.slice Aq mq cq),(⟨p,1,none⟩,.bool bad),(⟨s,0,none⟩,.slice none 0 0),(⟨s,1,none⟩,.bool false)]:List (Addr×Value))) ⟨.slice A n c,by simp⟩ (fun x hx=>by
   simp only[List.mem_cons,List.not_mem_nil,or_false]at hx
   rcases hx with rfl | rfl | rfl | rfl | rfl | rfl | rfl | rfl
   iterate 4 exact .inl ⟨by simp,by simp⟩
   ·exact .inr rfl
   ·exact .inl ⟨by simp,by simp⟩
   ·exact .inl ⟨by simp,by simp⟩
   ·exact .inl ⟨by simp,by simp⟩)
  have h2:=h1.setc haw HPW.out (j:=1) (u:=.bool bq) (l2:=([(⟨y,0,none⟩,.int .i64 y0),(⟨y,1,none⟩,.int .i64 y1),(⟨y,2,none⟩,.int .i64 y2),(⟨y,3,none⟩,.int .i64 y3),(⟨p,0,none⟩,.slice Aq mq cq),(⟨p,1,none⟩,.bool bq),(⟨s,0,none⟩,.slice none 0 0),(⟨s,1,none⟩,.bool false)]:List (Addr×Value))) ⟨.bool bad,by simp⟩ (fun x hx=>by
   simp only[List.mem_cons,List.not_mem_nil,or_false]at hx
   rcases hx with rfl | rfl | rfl | rfl | rfl | rfl | rfl | rfl
   iterate 4 exact .inl ⟨by simp,by simp⟩
   ·exact .inl ⟨by simp,by simp⟩
   ·exact .inr rfl
   ·exact .inl ⟨by simp,by simp⟩
   ·exact .inl ⟨by simp,by simp⟩)
  rw[hWN];exact h2
 have HRP:Hid (Rd wp B 1 Aq mq cq (u8s rest)):=HRR.out.below (hbp.mono (by have h1:=HG2.out.2.size;omega))
 have HRN:Hid (Rd WN B 1 Aq mq cq (u8s rest)):=by unfold Hid;rw[hWN];exact (HRP.out.setCell (p:=⟨p,0,none⟩) (by have:=HPW.out;dsimp only;omega) _).setCell (p:=⟨p,1,none⟩) (by have:=HPW.out;dsimp only;omega) _
 have Hy:=Lib.hid hy;have Hwp:=Lib.hid hwp;have HWN:=Lib.hid hWN;clear HG2 HGP HRR HRP hwp hy hWN hbp;go_wp2_with fail;rw[← Hwp.out,← HWN.out]
 try rw[← Hy.out]
 clear k0 k1 f0 f1;refine wp_region_held_drew (S:=fun W=>W.cell? ⟨y,0,none⟩=some (.int .i64 y0)∧W.cell? ⟨y,1,none⟩=some (.int .i64 y1)∧W.cell? ⟨y,2,none⟩=some (.int .i64 y2)∧W.cell? ⟨y,3,none⟩=some (.int .i64 y3)∧W.cell? ⟨p,0,none⟩=some (.slice Aq mq cq)∧W.cell? ⟨p,1,none⟩=some (.bool bq)) (by kernel_rfl) (by exact⟨(HG3.out.later (bel_drewN (Below.refl _ _) 1)).cell (p:=⟨y,0,none⟩) (v:=.int .i64 y0) (by simp),(HG3.out.later (bel_drewN (Below.refl _ _) 1)).cell (p:=⟨y,1,none⟩) (v:=.int .i64 y1) (by simp),(HG3.out.later (bel_drewN (Below.refl _ _) 1)).cell (p:=⟨y,2,none⟩) (v:=.int .i64 y2) (by simp),(HG3.out.later (bel_drewN (Below.refl _ _) 1)).cell (p:=⟨y,3,none⟩) (v:=.int .i64 y3) (by simp),(HG3.out.later (bel_drewN (Below.refl _ _) 1)).cell (p:=⟨p,0,none⟩) (v:=.slice Aq mq cq) (by simp),(HG3.out.later (bel_drewN (Below.refl _ _) 1)).cell (p:=⟨p,1,none⟩) (v:=.bool bq) (by simp)⟩) (fun hHeld=>?_)
 obtain⟨wz,hwz,hbz⟩:=drq WN;have HGS:=Lib.hid (HG3.out.later hbz);have HRS:Hid (Rd wz B 1 Aq mq cq (u8s rest)):=HRN.out.below (hbz.mono (by have h1:=HG3.out.2.size;omega));rw[← hwz]at hHeld ⊢;clear hwz hbz HG3 HRN;refine Tk 0 71 ?_;refine Tk 1 72 ?_;refine Tk 3 74 ?_;refine Tc 2 (fun K hK=>?_);go_simp;refine (getvec_any HGS.out.1).mono ?_;rintro e v1 ⟨u,r2,b2,rfl,HG2,HS⟩;obtain⟨rfl,rfl,rfl⟩:=Got.uniq pre_v4 HGD.out HS.out;have HG:=Lib.hid (HGS.out.trans HG2.out);have HRV:Hid (Rd v1 B 1 Aq mq cq (u8s rest)):=HRS.out.below (gb_below HG2.out.2 hBa (by have h1:=HGS.out.2.size;omega));clear HG2;have HGL:=Lib.hid HG.out;have HRL:=Lib.hid HRV.out;clear HG HRV;have ev:∀ W,(Op.equalIn 10000 42 (.agg #[.int .i64 y0,.int .i64 y1,.int .i64 y2,.int .i64 y3]) (.agg #[.int .i64 y0,.int .i64 y1,.int .i64 y2,.int .i64 y3])).run Tryz.prog W=Result.ok true W:=fun W=>(eqV W (vf (y0,y1,y2,y3)) (vf (y0,y1,y2,y3))).trans (show Result.ok (y0==y0&&(y1==y1&&(y2==y2&&y3==y3))) W=Result.ok true W by simp)
 have n0:=HGL.out.cell (p:=⟨s,0,none⟩) (v:=.slice none 0 0) (by simp);have n1:=HGL.out.cell (p:=⟨s,1,none⟩) (v:=.bool false) (by simp);have f0:=(HGL.out.1.free s (by simp)).1.2 0;have f1:=(HGL.out.1.free s (by simp)).1.2 1;have m0:=HGL.out.cell (p:=⟨y,0,none⟩) (v:=.int .i64 y0) (by simp);have m1:=HGL.out.cell (p:=⟨y,1,none⟩) (v:=.int .i64 y1) (by simp);have m2:=HGL.out.cell (p:=⟨y,2,none⟩) (v:=.int .i64 y2) (by simp);have m3:=HGL.out.cell (p:=⟨y,3,none⟩) (v:=.int .i64 y3) (by simp);have m4:=HGL.out.cell (p:=⟨p,0,none⟩) (v:=.slice Aq mq cq) (by simp);have m5:=HGL.out.cell (p:=⟨p,1,none⟩) (v:=.bool bq) (by simp);obtain⟨W9,hW9⟩:∃ W,W=((v1.setCell ⟨s,0,none⟩ (.slice Aq mq cq)).setCell ⟨s,1,none⟩ (.bool bq)):=⟨_,rfl⟩
 have HB9:Hid (Below w.heap.size v1 W9):=by unfold Hid;rw[hW9];exact ((Below.refl w.heap.size v1).setCell (p:=⟨s,0,none⟩) HSW.out _).setCell (p:=⟨s,1,none⟩) HSW.out _
 have HG9:Hid (Gt a w [] [] rest bq W9):=(HGL.out.sub (l2:=[]) (F2:=[]) (by simp) (by simp)).low HO.out HB9.out;have HR9:Hid (Rd W9 B 1 Aq mq cq (u8s rest)):=HRL.out.below (HB9.out.mono hBw)
 have l0:W9.cell? ⟨s,0,none⟩=some (.slice Aq mq cq):=by rw[hW9];go_simp
 have l1:W9.cell? ⟨s,1,none⟩=some (.bool bq):=by rw[hW9];go_simp
 have HMQ:Hid (mq≤1000):=by have h1:=HGD.out.le;have h2:=HM.out;have h3:=HL.out;unfold Hid;omega
 have HW9:=Lib.hid hW9;clear hW9;refine hK.out _ _ ?_ (fun hHeld2=>?_)
 ·exact⟨HGL.out.cell (p:=⟨y,0,none⟩) (v:=.int .i64 y0) (by simp),HGL.out.cell (p:=⟨y,1,none⟩) (v:=.int .i64 y1) (by simp),HGL.out.cell (p:=⟨y,2,none⟩) (v:=.int .i64 y2) (by simp),HGL.out.cell (p:=⟨y,3,none⟩) (v:=.int .i64 y3) (by simp),HGL.out.cell (p:=⟨p,0,none⟩) (v:=.slice Aq mq cq) (by simp),HGL.out.cell (p:=⟨p,1,none⟩) (v:=.bool bq) (by simp)⟩
 clear hK K hHeld;have hHeld:=hHeld2;clear hHeld2
 try simp only[]
 refine Tk 4 75 ?_;refine Tc 5 (fun K hK=>?_);go_simp;refine Th hK ?_ (fun hHeld2=>?_)
 ·refine⟨?_,?_,?_,?_,?_,?_⟩ <;> go_simp
 clear hK K hHeld;have hHeld:=hHeld2;clear hHeld2;refine Tk 6 7 ?_;refine wpAnyH_done (by kernel_rfl) ?_ _;clear hHeld;go_wp2;rw[← HW9.out];exact bodyPost_ret (v:=.tuple #[.agg #[.slice Aq mq cq,.bool bq],.bool true]) (by simp[results,Tryz.results14,go_sem,l0,l1]) rfl ⟨rest,bq,Aq,mq,cq,rfl,HG9,HM,HR9,HMQ⟩
end Pk
end Go.Proofs.YtcbpgemiffmieaaGreat
namespace Go.Proofs.YtcbpgemiffmieaaGreat
open Go.ChangeShapes Go.WideShapes Go.ChangeAt Go.RowKit
namespace Pk
open Tr Cx Cs Sp Rw Codec
structure RightTh (x:Thg):Prop where
 c:RightC x.c
 k:RK (x.t,x.xs)
 o:OpOk x.o
 v:MayV (vf x.v)
theorem thB_0 {x:Thg} (h:RightTh x) (h0:x.kd=0):thB x=ctxB x.c:=by unfold thB;rw[if_pos h0,rightCB_true h.c];rfl
theorem thB_1 {x:Thg} (h:RightTh x) (h0:¬x.kd=0) (h1:x.kd=1):thB x=treeB x.t:=by unfold thB;rw[if_neg h0,if_pos h1,rightB_iff.2 h.k.tree];rfl
theorem thB_2 {x:Thg} (h:RightTh x) (h0:¬x.kd=0) (h1:¬x.kd=1) (h2:x.kd=2):thB x=causB (x.t,x.xs):=by unfold thB;rw[if_neg h0,if_neg h1,if_pos h2,rightKB_iff.2 h.k];rfl
theorem thB_3 {x:Thg} (h:RightTh x) (h0:¬x.kd=0) (h1:¬x.kd=1) (h2:¬x.kd=2) (h3:x.kd=3):thB x=opB x.o:=by unfold thB;rw[if_neg h0,if_neg h1,if_neg h2,if_pos h3,if_pos (opE_zero.2 h.o)]
theorem thB_4 {x:Thg} (h:RightTh x) (h0:¬x.kd=0) (h1:¬x.kd=1) (h2:¬x.kd=2) (h3:¬x.kd=3):thB x=v4B x.v:=by
 unfold thB;rw[if_neg h0,if_neg h1,if_neg h2,if_neg h3,@decide_eq_true _ (Classical.propDecidable _) h.v];rfl
theorem drop_one {l:List Thg} {k:Nat} {x:Thg} (hk:k<l.length) (hx:x=l[k]):(l.drop k).flatMap thB=thB x++(l.drop (k+1)).flatMap thB:=by
 rw[List.drop_eq_getElem_cons hk,List.flatMap_cons,hx]
theorem in_box {w W:World} {a:Nat} {bs:List UInt8} {bad:Bool} (h:InC w [] [] a bs bad) (hb:Below w.heap.size w W) {l2:List (Addr×Value)} (h2:∀ x∈l2,w.heap.size≤x.1.block∧x.1.block<W.heap.size∧W.cell? x.1=some x.2):InC W l2 [] a bs bad:=by
 have h3:=h.add (F2:=[]) hb h2 (by simp);rw[List.append_nil]at h3;exact h3
end Pk
end Go.Proofs.YtcbpgemiffmieaaGreat
