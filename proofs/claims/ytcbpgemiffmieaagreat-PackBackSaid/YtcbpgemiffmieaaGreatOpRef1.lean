/- Changes: the document's kinds, paths, acts. -/
import Derived.Test.YtcbpgemiffmieaaGreatG00
import Derived.Test.YtcbpgemiffmieaaGreatG50
import Derived.Test.YtcbpgemiffmieaaGreatG20
set_option maxRecDepth 100000
set_option maxHeartbeats 4000000
namespace Go.Proofs.YtcbpgemiffmieaaGreat
open Go.ChangeShapes Go.WideShapes Go.ChangeAt Go.RowKit
namespace Cs
open Tr Cx Sp Rw Classical
theorem kind_no {c:UInt8} {l:List UInt8} (h:¬c=102∧¬c=115∧¬c=99∧¬c=114∧¬c=109):kindK ⟨⟨c::l⟩⟩=0:=by
 unfold kindK
 split
 ·rename_i h2;injection h2 with h2;exact absurd h2 h.1
 ·rename_i h2;injection h2 with h2;exact absurd h2 h.2.1
 ·rename_i h2;injection h2 with h2;exact absurd h2 h.2.2.1
 ·rename_i h2;injection h2 with h2;exact absurd h2 h.2.2.2.1
 ·rename_i h2;injection h2 with h2;exact absurd h2 h.2.2.2.2
 ·rfl
theorem refkind_any (key:ByteArray) (w:World) :
  Calls Tryz.prog 60 #[.string key] w fun e w'=>e = .returned (.int .i64 (kindK key))∧Below w.heap.size w w':=by
 obtain⟨⟨l⟩⟩:=key
 cases l with
 | nil=>
  go_enter Tryz.func60,Tryz.ntmps60;go_wp2_with fail
  go_loopw [7] (fun i wr=>∃ (k:Nat),k≤5∧i = .int .i64 k∧Hid (Below w.heap.size w wr)) (fun i _=>5-(intOf i).toNat)
  case atStart=>exact⟨0,by omega,rfl,Below.refl _ _⟩
  case round=>
   obtain⟨k,hk,rfl,HB⟩:=hrel
   by_cases hlt:k<5
   ·go_wp2_with fail
    go_quiet (fail)
    go_wp2_with fail;go_roundw
    case rel=>exact⟨k+1,by omega,by go_num,bel_drewN HB.out _⟩
    case measure=>simp[intOf];omega
   ·obtain rfl:k=5:=by omega
    go_wp2_with fail;go_ret;exact⟨rfl,HB.out⟩
 | cons c l=>
  obtain⟨n,hn⟩:∃ n,n=kindK ⟨⟨c::l⟩⟩:=⟨_,rfl⟩;rw[← hn];have HN:=Lib.hid hn
  have HSZ:Hid (0<(ByteArray.mk ⟨c::l⟩).size):=by show 0<(c::l).length;simp
  have f0:decide ((0:Int)<((ByteArray.mk ⟨c::l⟩).size:Int))=true:=decide_eq_true (by show (0:Int)<((c::l).length:Int);simp);clear hn;go_enter Tryz.func60,Tryz.ntmps60;go_wp2_with fail
  go_loopw [7] (fun i wr=>∃ (k:Nat),k≤5∧i = .int .i64 k∧Hid ((0<k→¬c=102)∧(1<k→¬c=115)∧(2<k→¬c=99)∧(3<k→¬c=114)∧(4<k→¬c=109))∧Hid (Below w.heap.size w wr)) (fun i _=>5-(intOf i).toNat)
  case atStart=>exact⟨0,by omega,rfl,⟨fun h=>absurd h (by omega),fun h=>absurd h (by omega),fun h=>absurd h (by omega),fun h=>absurd h (by omega),fun h=>absurd h (by omega)⟩,Below.refl _ _⟩
  case round=>
   obtain⟨k,hk,rfl,HNO,HB⟩:=hrel
   by_cases hlt:k<5
   ·have h5:k=0∨k=1∨k=2∨k=3∨k=4:=by omega
    rcases h5 with rfl | rfl | rfl | rfl | rfl
    ·by_cases hc:c=102
     ·subst hc
      obtain rfl:n=1:=HN.out;have f1:((((ByteArray.mk ⟨102::l⟩)[0]'HSZ.out).toNat:Int)==(((ByteArray.mk #[102,115,99,114,109])[0]'(by decide)).toNat:Int))=true:=rfl;go_wp2_with fail
      go_quiet (fail)
      go_wp2_with fail;go_ret;exact⟨rfl,bel_drewN HB.out _⟩
     ·have HNO2:Hid ((0<1→¬c=102)∧(1<1→¬c=115)∧(2<1→¬c=99)∧(3<1→¬c=114)∧(4<1→¬c=109)):=⟨fun _=>hc,fun h=>absurd h (by omega),fun h=>absurd h (by omega),fun h=>absurd h (by omega),fun h=>absurd h (by omega)⟩
      have f1:((((ByteArray.mk ⟨c::l⟩)[0]'HSZ.out).toNat:Int)==(((ByteArray.mk #[102,115,99,114,109])[0]'(by decide)).toNat:Int))=false:=by
       rw[beq_eq_false_iff_ne];intro h;have h2:((c.toNat:Nat):Int)=102:=h;exact hc (UInt8.toNat_inj.1 (by show c.toNat=102;omega))
      clear hc;go_wp2_with fail
      go_quiet (fail)
      go_wp2_with fail;go_roundw
      case rel=>exact⟨1,by omega,by go_num,HNO2.out,bel_drewN HB.out _⟩
      case measure=>simp[intOf]
    ·by_cases hc:c=115
     ·subst hc
      obtain rfl:n=2:=HN.out;have f1:((((ByteArray.mk ⟨115::l⟩)[0]'HSZ.out).toNat:Int)==(((ByteArray.mk #[102,115,99,114,109])[1]'(by decide)).toNat:Int))=true:=rfl;go_wp2_with fail
      go_quiet (fail)
      go_wp2_with fail;go_ret;exact⟨rfl,bel_drewN HB.out _⟩
     ·have HNO2:Hid ((0<2→¬c=102)∧(1<2→¬c=115)∧(2<2→¬c=99)∧(3<2→¬c=114)∧(4<2→¬c=109)):=⟨fun _=>HNO.out.1 (by omega),fun _=>hc,fun h=>absurd h (by omega),fun h=>absurd h (by omega),fun h=>absurd h (by omega)⟩
      have f1:((((ByteArray.mk ⟨c::l⟩)[0]'HSZ.out).toNat:Int)==(((ByteArray.mk #[102,115,99,114,109])[1]'(by decide)).toNat:Int))=false:=by
       rw[beq_eq_false_iff_ne];intro h;have h2:((c.toNat:Nat):Int)=115:=h;exact hc (UInt8.toNat_inj.1 (by show c.toNat=115;omega))
      clear hc;go_wp2_with fail
      go_quiet (fail)
      go_wp2_with fail;go_roundw
      case rel=>exact⟨2,by omega,by go_num,HNO2.out,bel_drewN HB.out _⟩
      case measure=>simp[intOf]
    ·by_cases hc:c=99
     ·subst hc
      obtain rfl:n=3:=HN.out;have f1:((((ByteArray.mk ⟨99::l⟩)[0]'HSZ.out).toNat:Int)==(((ByteArray.mk #[102,115,99,114,109])[2]'(by decide)).toNat:Int))=true:=rfl;go_wp2_with fail
      go_quiet (fail)
      go_wp2_with fail;go_ret;exact⟨rfl,bel_drewN HB.out _⟩
     ·have HNO2:Hid ((0<3→¬c=102)∧(1<3→¬c=115)∧(2<3→¬c=99)∧(3<3→¬c=114)∧(4<3→¬c=109)):=⟨fun _=>HNO.out.1 (by omega),fun _=>HNO.out.2.1 (by omega),fun _=>hc,fun h=>absurd h (by omega),fun h=>absurd h (by omega)⟩
      have f1:((((ByteArray.mk ⟨c::l⟩)[0]'HSZ.out).toNat:Int)==(((ByteArray.mk #[102,115,99,114,109])[2]'(by decide)).toNat:Int))=false:=by
       rw[beq_eq_false_iff_ne];intro h;have h2:((c.toNat:Nat):Int)=99:=h;exact hc (UInt8.toNat_inj.1 (by show c.toNat=99;omega))
      clear hc;go_wp2_with fail
      go_quiet (fail)
      go_wp2_with fail;go_roundw
      case rel=>exact⟨3,by omega,by go_num,HNO2.out,bel_drewN HB.out _⟩
      case measure=>simp[intOf]
    ·by_cases hc:c=114
     ·subst hc
      obtain rfl:n=4:=HN.out;have f1:((((ByteArray.mk ⟨114::l⟩)[0]'HSZ.out).toNat:Int)==(((ByteArray.mk #[102,115,99,114,109])[3]'(by decide)).toNat:Int))=true:=rfl;go_wp2_with fail
      go_quiet (fail)
      go_wp2_with fail;go_ret;exact⟨rfl,bel_drewN HB.out _⟩
     ·have HNO2:Hid ((0<4→¬c=102)∧(1<4→¬c=115)∧(2<4→¬c=99)∧(3<4→¬c=114)∧(4<4→¬c=109)):=⟨fun _=>HNO.out.1 (by omega),fun _=>HNO.out.2.1 (by omega),fun _=>HNO.out.2.2.1 (by omega),fun _=>hc,fun h=>absurd h (by omega)⟩
      have f1:((((ByteArray.mk ⟨c::l⟩)[0]'HSZ.out).toNat:Int)==(((ByteArray.mk #[102,115,99,114,109])[3]'(by decide)).toNat:Int))=false:=by
       rw[beq_eq_false_iff_ne];intro h;have h2:((c.toNat:Nat):Int)=114:=h;exact hc (UInt8.toNat_inj.1 (by show c.toNat=114;omega))
      clear hc;go_wp2_with fail
      go_quiet (fail)
      go_wp2_with fail;go_roundw
      case rel=>exact⟨4,by omega,by go_num,HNO2.out,bel_drewN HB.out _⟩
      case measure=>simp[intOf]
    ·by_cases hc:c=109
     ·subst hc
      obtain rfl:n=5:=HN.out;have f1:((((ByteArray.mk ⟨109::l⟩)[0]'HSZ.out).toNat:Int)==(((ByteArray.mk #[102,115,99,114,109])[4]'(by decide)).toNat:Int))=true:=rfl;go_wp2_with fail
      go_quiet (fail)
      go_wp2_with fail;go_ret;exact⟨rfl,bel_drewN HB.out _⟩
     ·have HNO2:Hid ((0<5→¬c=102)∧(1<5→¬c=115)∧(2<5→¬c=99)∧(3<5→¬c=114)∧(4<5→¬c=109)):=⟨fun _=>HNO.out.1 (by omega),fun _=>HNO.out.2.1 (by omega),fun _=>HNO.out.2.2.1 (by omega),fun _=>HNO.out.2.2.2.1 (by omega),fun _=>hc⟩
      have f1:((((ByteArray.mk ⟨c::l⟩)[0]'HSZ.out).toNat:Int)==(((ByteArray.mk #[102,115,99,114,109])[4]'(by decide)).toNat:Int))=false:=by
       rw[beq_eq_false_iff_ne];intro h;have h2:((c.toNat:Nat):Int)=109:=h;exact hc (UInt8.toNat_inj.1 (by show c.toNat=109;omega))
      clear hc;go_wp2_with fail
      go_quiet (fail)
      go_wp2_with fail;go_roundw
      case rel=>exact⟨5,by omega,by go_num,HNO2.out,bel_drewN HB.out _⟩
      case measure=>simp[intOf]
   ·obtain rfl:k=5:=by omega
    obtain rfl:n=0:=by
     rw[HN.out];exact kind_no ⟨HNO.out.1 (by omega),HNO.out.2.1 (by omega),HNO.out.2.2.1 (by omega),HNO.out.2.2.2.1 (by omega),HNO.out.2.2.2.2 (by omega)⟩
    go_wp2_with fail;go_ret;exact⟨rfl,HB.out⟩
theorem refact_any (a:Int) (k:Nat) (w:World) (z:Bool) (hz:decide (actOk a k)=z) :
  Calls Tryz.prog 59 #[.int .i64 a,.int .i64 k] w fun e w'=>e = .returned (.bool z)∧Below w.heap.size w w':=by
 by_cases h1:a=1
 ·subst h1
  have fk:((k:Int)==1)=z:=by
   rw[← hz,Bool.eq_iff_iff,beq_iff_eq,decide_eq_true_iff];unfold actOk;omega
  clear hz;go_enter Tryz.func59,Tryz.ntmps59;go_wp2_with fail;go_ret;exact⟨rfl,Below.refl _ _⟩
 have f1:(a==1)=false:=by simpa using h1
 by_cases h2:a=2
 ·subst h2
  have fk:((k:Int)==1)=z:=by
   rw[← hz,Bool.eq_iff_iff,beq_iff_eq,decide_eq_true_iff];unfold actOk;omega
  clear hz;go_enter Tryz.func59,Tryz.ntmps59;go_wp2_with fail;go_ret;exact⟨rfl,Below.refl _ _⟩
 have f2:(a==2)=false:=by simpa using h2
 by_cases h3:a=3
 ·subst h3
  have fk:((k:Int)==2)=z:=by
   rw[← hz,Bool.eq_iff_iff,beq_iff_eq,decide_eq_true_iff];unfold actOk;omega
  clear hz;go_enter Tryz.func59,Tryz.ntmps59;go_wp2_with fail;go_ret;exact⟨rfl,Below.refl _ _⟩
 have f3:(a==3)=false:=by simpa using h3
 by_cases h4:a=4
 ·subst h4
  have fk:((k:Int)==2)=z:=by
   rw[← hz,Bool.eq_iff_iff,beq_iff_eq,decide_eq_true_iff];unfold actOk;omega
  clear hz;go_enter Tryz.func59,Tryz.ntmps59;go_wp2_with fail;go_ret;exact⟨rfl,Below.refl _ _⟩
 have f4:(a==4)=false:=by simpa using h4
 by_cases h5:a=5
 ·subst h5
  have fk:((k:Int)==3)=z:=by
   rw[← hz,Bool.eq_iff_iff,beq_iff_eq,decide_eq_true_iff];unfold actOk;omega
  clear hz;go_enter Tryz.func59,Tryz.ntmps59;go_wp2_with fail;go_ret;exact⟨rfl,Below.refl _ _⟩
 have f5:(a==5)=false:=by simpa using h5
 by_cases h6:a=6
 ·subst h6
  have fk:((k:Int)==4)=z:=by
   rw[← hz,Bool.eq_iff_iff,beq_iff_eq,decide_eq_true_iff];unfold actOk;omega
  clear hz;go_enter Tryz.func59,Tryz.ntmps59;go_wp2_with fail;go_ret;exact⟨rfl,Below.refl _ _⟩
 have f6:(a==6)=false:=by simpa using h6
 have f7:(a==7)=z:=by
  rw[← hz,Bool.eq_iff_iff,beq_iff_eq,decide_eq_true_iff];unfold actOk;omega
 clear hz h1 h2 h3 h4 h5 h6;go_enter Tryz.func59,Tryz.ntmps59;go_wp2_with fail;go_ret;exact⟨rfl,Below.refl _ _⟩
noncomputable def pathE (l:List ByteArray):Int:=if l=[]∨3<l.length∨(∃ k∈l,30<k.size∨kindK k=0)then 1 else if ∃ (i:Nat) (h:i<l.length),i+1<l.length∧kindK l[i]≠5 then 6 else 0
theorem pathE_zero {l:List ByteArray} : pathE l=0↔PathOk l:=by
 unfold pathE;constructor
 ·intro h
  split at h
  ·cases h
  split at h
  ·cases h
  rename_i h1 h2;refine⟨fun e=>h1 (.inl e),Classical.byContradiction fun e=>h1 (.inr (.inl (by omega))),fun k hk=>⟨Classical.byContradiction fun e=>h1 (.inr (.inr ⟨k,hk,.inl (by omega)⟩)),fun e=>h1 (.inr (.inr ⟨k,hk,.inr e⟩))⟩,fun i hi h3=>Classical.byContradiction fun e=>h2 ⟨i,hi,h3,e⟩⟩
 ·intro h
  rw[if_neg,if_neg]
  ·rintro⟨i,hi,h1,h2⟩
   exact h2 (h.maps i hi h1)
  ·rintro (h1 | h1 | ⟨k,hk,h1 | h1⟩)
   ·exact h.some h1
   ·have:=h.few;omega
   ·have:=(h.each k hk).1;omega
   ·exact (h.each k hk).2 h1
theorem pathE_one {l:List ByteArray} (h:l=[]∨3<l.length∨(∃ k∈l,30<k.size∨kindK k=0)):pathE l=1:=if_pos h
theorem pathE_six {l:List ByteArray} (h:¬(l=[]∨3<l.length∨(∃ k∈l,30<k.size∨kindK k=0))) (h2:∃ (i:Nat) (h:i<l.length),i+1<l.length∧kindK l[i]≠5):pathE l=6:=by
 unfold pathE;rw[if_neg h,if_pos h2]
theorem pathE_ok {l:List ByteArray} (h:¬(l=[]∨3<l.length∨(∃ k∈l,30<k.size∨kindK k=0))) (h2:¬ ∃ (i:Nat) (h:i<l.length),i+1<l.length∧kindK l[i]≠5):pathE l=0:=by
 unfold pathE;rw[if_neg h,if_neg h2]
theorem refpath_any (l:List ByteArray) (n:Nat) (A:Option Addr) (c:Nat) (w:World) (z:Int) (hz:pathE l=z) (hn:n≤1000) (hr:Rd w w.heap.size 1 A n c (strs l)) :
  Calls Tryz.prog 58 #[.slice A n c] w fun e w'=>e = .returned (.int .i64 z)∧Below w.heap.size w w':=by
 have HZ:=Lib.hid hz;have HA:=Lib.hid hr;have HLA:=Lib.hid (rd_len1 hr);clear hr hz
 by_cases h0:n=0
 ·subst h0
  obtain rfl:z=1:=by rw[← HZ.out];exact pathE_one (.inl (List.eq_nil_of_length_eq_zero HLA.out))
  go_enter Tryz.func58,Tryz.ntmps58;go_wp2_with fail;go_ret;exact⟨rfl,Below.refl _ _⟩
 have f0:((n:Int)==0)=false:=by simp;omega
 by_cases h3:3<n
 ·have f3:decide ((3:Int)<(n:Int))=true:=decide_eq_true (by omega)
  obtain rfl:z=1:=by rw[← HZ.out];exact pathE_one (.inr (.inl (by rw[HLA.out];exact h3)))
  clear h0 h3;go_enter Tryz.func58,Tryz.ntmps58;go_wp2_with fail;go_ret;exact⟨rfl,Below.refl _ _⟩
 have f3:decide ((3:Int)<(n:Int))=false:=decide_eq_false (by omega)
 have HN0:Hid (0<n∧n≤3):=by unfold Hid;omega
 clear h0 h3;go_enter Tryz.func58,Tryz.ntmps58;go_wp2_with fail
 go_loopw [15] (fun i wr=>∃ (k:Nat),k≤n∧i = .int .i64 k∧Hid (∀ (j:Nat) (h:j<l.length),j<k→(l[j]).size≤30∧kindK l[j]≠0)∧Hid (Below w.heap.size w wr)) (fun i _=>n-(intOf i).toNat)
 case atStart=>exact⟨0,by omega,rfl,fun j _ h=>absurd h (by omega),Below.refl _ _⟩
 case round=>
  obtain⟨k,hk,rfl,HI,HBL⟩:=hrel
  by_cases hlt:k<n
  ·have hbw:=HBL.out
   have hkl:k<l.length:=by rw[HLA.out];exact hlt
   obtain⟨g,o,rfl,hgl,hc⟩:=rd_text HA.out (by omega);have q0:=(HBL.out.cell (p:=⟨g,o+k,none⟩) hgl).trans (hc k hkl);have hmem:l[k]∈l:=List.getElem_mem hkl;obtain⟨x,hx⟩:∃ x,x=l[k]:=⟨_,rfl⟩;rw[← hx]at q0 hmem;obtain⟨kd,hkd⟩:∃ kd,kd=kindK x:=⟨_,rfl⟩
   by_cases h30:30<x.size
   ·have f30:decide ((30:Int)<(x.size:Int))=true:=decide_eq_true (by omega)
    obtain rfl:z=1:=by rw[← HZ.out];exact pathE_one (.inr (.inr ⟨x,hmem,.inl h30⟩))
    clear hc hmem hx hkd h30 hbw;go_wp2_with fail;go_ret;exact⟨rfl,HBL.out⟩
   have f30:decide ((30:Int)<(x.size:Int))=false:=decide_eq_false (by omega);have HKC:=Lib.hid (refkind_any x wr)
   by_cases hk0:kd=0
   ·obtain rfl:z=1:=by rw[← HZ.out];exact pathE_one (.inr (.inr ⟨x,hmem,.inr (by rw[← hkd];exact hk0)⟩))
    have HKD:=Lib.hid (hkd.symm.trans hk0);clear hc hmem hx hkd h30 hbw hk0;go_wp2_with fail;refine HKC.out.mono ?_;rw[HKD.out];rintro e w2 ⟨rfl,hb2⟩;have HB2:=Lib.hid (HBL.out.trans (hb2.mono HBL.out.size));clear hb2 HKC;go_wp2_with fail;go_ret;exact⟨rfl,HB2.out⟩
   ·have fk0:((kd:Int)==0)=false:=by simp;omega
    have HI2:Hid (∀ (j:Nat) (h:j<l.length),j<k+1→(l[j]).size≤30∧kindK l[j]≠0):=fun j hj hjk=>by
     by_cases e:j=k
     ·subst e;rw[← hx,← hkd];exact⟨by omega,hk0⟩
     ·exact HI.out j hj (by omega)
    have HKD:=Lib.hid hkd;clear hc hmem hx hkd h30 hbw hk0;go_wp2_with fail;refine HKC.out.mono ?_;rw[← HKD.out];rintro e w2 ⟨rfl,hb2⟩;have HB2:=Lib.hid (HBL.out.trans (hb2.mono HBL.out.size));clear hb2 HKC;go_wp2_with fail;go_roundw
    case rel=>exact⟨k+1,by omega,by go_num,HI2.out,HB2.out⟩
    case measure=>simp[intOf];omega
  ·obtain rfl:k=n:=by omega
   have HGD:Hid (¬(l=[]∨3<l.length∨(∃ x∈l,30<x.size∨kindK x=0))):=by
    rintro (h1 | h1 | ⟨x,hx,h1⟩)
    ·have h2:=HLA.out
     rw[h1]at h2;have h3:=HN0.out.1
     simp at h2
     omega
    ·have h2:=HLA.out
     have h3:=HN0.out.2;omega
    ·obtain⟨j,hj,rfl⟩:=List.getElem_of_mem hx
     have h2:=HI.out j hj (by have:=HLA.out;omega)
     rcases h1 with h1 | h1
     ·omega
     ·exact h2.2 h1
   have HB1:=HBL;clear HI HBL hlt;go_wp2_with fail
   go_loopw [35] (fun i wz=>∃ (j:Nat),j≤k∧i = .int .i64 j∧Hid (∀ (i:Nat) (h:i<l.length),i<j→i+1<l.length→kindK l[i]=5)∧Hid (Below w.heap.size w wz)) (fun i _=>k-(intOf i).toNat)
   case atStart=>exact⟨0,by omega,rfl,fun i _ h=>absurd h (by omega),HB1.out⟩
   case round=>
    obtain⟨j,hj,rfl,HI,HBL⟩:=hrel;have hkb:=HN0.out
    by_cases hlt:j<k
    ·by_cases hj1:j+1<k
     ·have f1:decide ((j:Int)<(k:Int)-1)=true:=decide_eq_true (by omega)
      have hkl:j<l.length:=by rw[HLA.out];exact hlt
      obtain⟨g,o,rfl,hgl,hc⟩:=rd_text HA.out (by omega);have q0:=(HBL.out.cell (p:=⟨g,o+j,none⟩) hgl).trans (hc j hkl);obtain⟨x,hx⟩:∃ x,x=l[j]:=⟨_,rfl⟩;rw[← hx]at q0;obtain⟨kd,hkd⟩:∃ kd,kd=kindK x:=⟨_,rfl⟩;have HKC:=Lib.hid (refkind_any x wr)
      by_cases hk5:kd=5
      ·have f5:((kd:Int) != 5)=false:=by simp;omega
       have HI2:Hid (∀ (i:Nat) (h:i<l.length),i<j+1→i+1<l.length→kindK l[i]=5):=fun i hi hij h1=>by
        by_cases e:i=j
        ·subst e;rw[← hx,← hkd];exact hk5
        ·exact HI.out i hi (by omega) h1
       have HKD:=Lib.hid hkd;clear hc hx hkd hk5;go_wp2_with fail;refine HKC.out.mono ?_;rw[← HKD.out];rintro e w2 ⟨rfl,hb2⟩;have HB2:=Lib.hid (HBL.out.trans (hb2.mono HBL.out.size));clear hb2 HKC;go_wp2_with fail;go_roundw
       case rel=>exact⟨j+1,by omega,by go_num,HI2.out,HB2.out⟩
       case measure=>simp[intOf];omega
      ·have f5:((kd:Int) != 5)=true:=by simp;omega
       obtain rfl:z=6:=by
        rw[← HZ.out];exact pathE_six HGD.out ⟨j,hkl,by rw[HLA.out];exact hj1,by rw[← hx,← hkd];exact hk5⟩
       have HKD:=Lib.hid hkd;clear hc hx hkd hk5;go_wp2_with fail;refine HKC.out.mono ?_;rw[← HKD.out];rintro e w2 ⟨rfl,hb2⟩;have HB2:=Lib.hid (HBL.out.trans (hb2.mono HBL.out.size));clear hb2 HKC;go_wp2_with fail;go_ret;exact⟨rfl,HB2.out⟩
     ·have f1:decide ((j:Int)<(k:Int)-1)=false:=decide_eq_false (by omega)
      have HI2:Hid (∀ (i:Nat) (h:i<l.length),i<j+1→i+1<l.length→kindK l[i]=5):=fun i hi hij h1=>HI.out i hi (by have:=HLA.out;omega) h1;go_wp2_with fail;go_roundw
      case rel=>exact⟨j+1,by omega,by go_num,HI2.out,HBL.out⟩
      case measure=>simp[intOf];omega
    ·obtain rfl:j=k:=by omega
     obtain rfl:z=0:=by
      rw[← HZ.out];refine pathE_ok HGD.out ?_;rintro⟨i,hi,h1,h2⟩;exact h2 (HI.out i hi (by have:=HLA.out;omega) h1)
     go_wp2_with fail;go_ret;exact⟨rfl,HBL.out⟩
theorem lastK_get {l:List ByteArray} {n:Nat} (h:n<l.length) (h2:l.length=n+1):lastK l=kindK l[n]:=by
 unfold lastK;rw[List.getLast?_eq_getElem?,h2,Nat.add_sub_cancel,List.getElem?_eq_getElem h]
noncomputable def opE (o:OpM):Int:=if ¬pathE o.path=0 then pathE o.path else if ¬actOk o.act (lastK o.path)then 6 else if OpOk o then 0 else 1
theorem opE_path {o:OpM} (h:¬pathE o.path=0):opE o=pathE o.path:=if_pos h
theorem opE_kind {o:OpM} (h:pathE o.path=0) (h2:¬actOk o.act (lastK o.path)):opE o=6:=by
 unfold opE;rw[if_neg (fun h3=>h3 h),if_pos h2]
theorem opE_ok {o:OpM} (h:OpOk o):opE o=0:=by
 unfold opE;rw[if_neg (fun h3=>h3 (pathE_zero.2 h.path)),if_neg (fun h3=>h3 h.act),if_pos h]
theorem opE_no {o:OpM} (h:pathE o.path=0) (h2:actOk o.act (lastK o.path)) (h3:¬OpOk o):opE o=1:=by
 unfold opE;rw[if_neg (fun h4=>h4 h),if_neg (fun h4=>h4 h2),if_neg h3]
theorem opE_zero {o:OpM} : opE o=0↔OpOk o:=by
 constructor
 ·intro h
  unfold opE at h
  split at h
  ·rename_i h1;exact absurd h h1
  split at h
  ·cases h
  split at h
  ·assumption
  ·cases h
 ·exact opE_ok
theorem opOk_iff {p:List ByteArray} {a v:Int} {s:ByteArray} (hp:PathOk p) (ha:actOk a (lastK p)):OpOk ⟨p,a,s,v⟩↔((a=3∨a=4)→KeyOk s)∧(a=6→s.size≤30)∧(¬(a=3∨a=4∨a=6)→s=⟨#[]⟩)∧(a=5 → -1099511627776≤v∧v≤1099511627776)∧(a≠5→v=0):=
 ⟨fun h=>⟨h.key,h.text,h.none_,h.num,h.zero⟩,fun h=>⟨hp,ha,h.1,h.2.1,h.2.2.1,h.2.2.2.1,h.2.2.2.2⟩⟩
theorem refop_any (xp:List ByteArray) (xa:Int) (xs:ByteArray) (xv:Int) (xA:Option Addr) (xn xc:Nat) (w:World) (z:Int) (hz:opE ⟨xp,xa,xs,xv⟩=z) (hn:xn≤1000) (hrx:Rd w w.heap.size 1 xA xn xc (strs xp)) :
  Calls Tryz.prog 21 #[.agg #[.slice xA xn xc,.int .i64 xa,.string xs,.int .i64 xv]] w fun e w'=>e = .returned (.int .i64 z)∧Below w.heap.size w w':=by
 obtain⟨g,hg⟩:∃ g,g=w.heap.size:=⟨_,rfl⟩;obtain⟨W,hW⟩:∃ W,W=w.alloc (.cells #[.slice xA xn xc,.int .i64 xa,.string xs,.int .i64 xv] 40):=⟨_,rfl⟩
 have hb0:Below w.heap.size w W:=by rw[hW];exact Dt.box_below _ _ _
 have HKc:Hid (Kept [(⟨g,0,none⟩,.slice xA xn xc),(⟨g,1,none⟩,.int .i64 xa),(⟨g,2,none⟩,.string xs),(⟨g,3,none⟩,.int .i64 xv)] w W):=by
  have h0:=Kept.nil_of hb0
  refine (((h0.cons_of ?_).cons_of ?_).cons_of ?_).cons_of ?_ <;> (rw[hW,hg];go_simp)
 have HRX:=Lib.hid (hrx.later hb0);have HLX:=Lib.hid (rd_len1 hrx);have HZ:=Lib.hid hz;have HG:=Lib.hid hg;have HW:=Lib.hid hW;clear hrx hz hg hW hb0;obtain⟨y,hy⟩:∃ y,pathE xp=y:=⟨_,rfl⟩;have HY:=Lib.hid hy;clear hy;obtain⟨c0,c1,c2,c3,-⟩:=HKc.out.cj;go_enter Tryz.func21,Tryz.ntmps21;go_wp2_with fail;rw[← HG.out,← HW.out];refine (refpath_any xp xn xA xc W y HY.out hn HRX.out).mono ?_;rintro e v1 ⟨rfl,hb9⟩;have HKc:=Lib.hid (HKc.out.later hb9);have HRX:=Lib.hid (HRX.out.later hb9);clear hb9;clear c0 c1 c2 c3
 by_cases hy0:y=0
 ·subst hy0
  have HPO:Hid (PathOk xp):=pathE_zero.1 HY.out
  obtain⟨m,rfl⟩:∃ m,xn=m+1:=by
   have h2:=HPO.out.some;have h3:=HLX.out
   cases xp with
   | nil=>exact absurd rfl h2
   | cons a l=>exact⟨l.length,by rw[← h3];rfl⟩
  have hm3:m≤2:=by have h1:=HPO.out.few;have h3:=HLX.out;omega
  obtain⟨kd,hkd⟩:∃ kd,kd=lastK xp:=⟨_,rfl⟩;obtain⟨ok,hok⟩:∃ ok,decide (actOk xa kd)=ok:=⟨_,rfl⟩;have HOK:=Lib.hid hok;have HKD:=Lib.hid hkd;clear hkd hok
  have hkl:m<xp.length:=by rw[HLX.out];omega
  obtain⟨b,o,rfl,hgl,hc⟩:=rd_text HRX.out (by omega);have q0:=hc m hkl;have hlk:lastK xp=kindK xp[m]:=lastK_get hkl HLX.out;obtain⟨kk,hkk⟩:∃ x,x=xp[m]:=⟨_,rfl⟩;rw[← hkk]at q0 hlk;have HLK:=Lib.hid hlk;have HKc:=Lib.hid (HKc.out.cons_of q0);clear hc hkk hlk q0 hkl
  have fw:IntKind.i64.wrap (m:Int)=(m:Int):=by rw[IntKind.wrap_i64];omega
  have fx:IntKind.i64.wrap ((m:Int)+1-1)=(m:Int):=by rw[IntKind.wrap_i64];omega
  have fy:(m:Int)<(m:Int)+1:=by omega
  obtain⟨c0,c1,c2,c3,c4,-⟩:=HKc.out.cj;go_wp2_with fail;clear c0 c1 c2 c3 c4
  cases ok with
  | false=>
   refine wp_region_held_drew (S:=Conj _) (by kernel_rfl) HKc.out.drew.cj (fun hHeld=>?_);obtain⟨v11,hv11⟩:∃ v,v=v1.drew:=⟨_,rfl⟩
   have hb9:Below v1.heap.size v1 v11:=by rw[hv11];exact (Below.refl _ _).drew
   have HKc:=Lib.hid (HKc.out.later hb9);have HRX:=Lib.hid (HRX.out.later hb9);clear hb9;rw[← hv11]at hHeld ⊢;clear hv11;refine Tk 0 10 ?_;refine Tk 1 11 ?_;refine Tk 2 12 ?_;refine Tk 3 13 ?_;refine Tk 4 14 ?_;refine Tk 5 15 ?_;refine Tk 6 16 ?_;refine Tk 7 17 ?_;refine Tk 8 18 ?_;refine Tk 9 19 ?_;refine Tc 10 (fun K hK=>?_);go_simp;(go_at_call 60;refine (refkind_any kk v11).mono ?_);rw[← HLK.out,← HKD.out];rintro e v12 ⟨rfl,hb9⟩;have HKc:=Lib.hid (HKc.out.later hb9);have HRX:=Lib.hid (HRX.out.later hb9);clear hb9;clear hHeld;refine Th hK ?_ (fun hHeld=>?_)
   ·exact HKc.out.cj
   clear hK K;refine Tc 11 (fun K hK=>?_);go_simp;(go_at_call 59;refine (refact_any xa kd v12 false HOK.out).mono ?_);rintro e v13 ⟨rfl,hb9⟩;have HKc:=Lib.hid (HKc.out.later hb9);have HRX:=Lib.hid (HRX.out.later hb9);clear hb9;clear hHeld;refine Th hK ?_ (fun hHeld=>?_)
   ·exact HKc.out.cj
   clear hK K;refine Tk 12 22 ?_;refine wpAnyH_done (by kernel_rfl) ?_ _;clear hHeld
   obtain rfl:z=6:=by
    rw[← HZ.out];exact opE_kind HY.out (by rw[← HKD.out];exact of_decide_eq_false HOK.out)
   go_wp2_with fail;go_ret;exact⟨rfl,HKc.out.below⟩
  | true=>
   refine wp_region_held_drew (S:=Conj _) (by kernel_rfl) HKc.out.drew.cj (fun hHeld=>?_);obtain⟨v11,hv11⟩:∃ v,v=v1.drew:=⟨_,rfl⟩
   have hb9:Below v1.heap.size v1 v11:=by rw[hv11];exact (Below.refl _ _).drew
   have HKc:=Lib.hid (HKc.out.later hb9);have HRX:=Lib.hid (HRX.out.later hb9);clear hb9;rw[← hv11]at hHeld ⊢;clear hv11;refine Tk 0 10 ?_;refine Tk 1 11 ?_;refine Tk 2 12 ?_;refine Tk 3 13 ?_;refine Tk 4 14 ?_;refine Tk 5 15 ?_;refine Tk 6 16 ?_;refine Tk 7 17 ?_;refine Tk 8 18 ?_;refine Tk 9 19 ?_;refine Tc 10 (fun K hK=>?_);go_simp;(go_at_call 60;refine (refkind_any kk v11).mono ?_);rw[← HLK.out,← HKD.out];rintro e v12 ⟨rfl,hb9⟩;have HKc:=Lib.hid (HKc.out.later hb9);have HRX:=Lib.hid (HRX.out.later hb9);clear hb9;clear hHeld;refine Th hK ?_ (fun hHeld=>?_)
   ·exact HKc.out.cj
   clear hK K;refine Tc 11 (fun K hK=>?_);go_simp;(go_at_call 59;refine (refact_any xa kd v12 true HOK.out).mono ?_);rintro e v13 ⟨rfl,hb9⟩;have HKc:=Lib.hid (HKc.out.later hb9);have HRX:=Lib.hid (HRX.out.later hb9);clear hb9;clear hHeld;refine Th hK ?_ (fun hHeld=>?_)
   ·exact HKc.out.cj
   clear hK K;refine Tk 12 22 ?_;refine wpAnyH_done (by kernel_rfl) ?_ _;clear hHeld
   have HAC:Hid (actOk xa (lastK xp)):=by rw[← HKD.out];exact of_decide_eq_true HOK.out
   have h17:xa=1∨xa=2∨xa=3∨xa=4∨xa=5∨xa=6∨xa=7:=by
    have h:=HAC.out;unfold actOk at h;omega
   have HIF:=Lib.hid (opOk_iff (v:=xv) (s:=xs) HPO.out HAC.out)
   rcases h17 with rfl | rfl | rfl | rfl | rfl | rfl | rfl
   ·have c0:=HKc.out.c0
    have c1:=HKc.out.c1;have c2:=HKc.out.c2;have c3:=HKc.out.c3;have c4:=HKc.out.c4
    by_cases hs:xs=⟨#[]⟩
    ·subst hs
     by_cases h1:xv=0
     ·subst h1
      obtain rfl:z=0:=by
       rw[← HZ.out];exact opE_ok (HIF.out.2 ⟨fun h=>absurd h (by decide),fun h=>absurd h (by decide),fun _=>rfl,fun h=>absurd h (by decide),fun _=>rfl⟩)
      go_wp2_with fail;go_ret;exact⟨rfl,HKc.out.below⟩
     ·have f1:(xv != 0)=true:=by simpa using h1
      obtain rfl:z=1:=by
       rw[← HZ.out];exact opE_no HY.out HAC.out fun h=>h1 ((HIF.out.1 h).2.2.2.2 (by decide))
      go_wp2_with fail;go_ret;exact⟨rfl,HKc.out.below⟩
    ·have f8:(xs.toList==(ByteArray.mk #[]).toList)=false:=bytes_ne hs
     have f9:(xs.toList != (ByteArray.mk #[]).toList)=true:=by unfold bne;rw[f8];rfl
     have e0:(ByteArray.mk #[]).toList=[]:=by rw[ByteArray.toList_eq]
     have f10:=f8;have f11:=f9;rw[e0]at f10 f11;clear e0
     obtain rfl:z=1:=by
      rw[← HZ.out];exact opE_no HY.out HAC.out fun h=>hs ((HIF.out.1 h).2.2.1 (by decide))
     go_wp2_with fail;go_ret;exact⟨rfl,HKc.out.below⟩
   ·have c0:=HKc.out.c0
    have c1:=HKc.out.c1;have c2:=HKc.out.c2;have c3:=HKc.out.c3;have c4:=HKc.out.c4
    by_cases hs:xs=⟨#[]⟩
    ·subst hs
     by_cases h1:xv=0
     ·subst h1
      obtain rfl:z=0:=by
       rw[← HZ.out];exact opE_ok (HIF.out.2 ⟨fun h=>absurd h (by decide),fun h=>absurd h (by decide),fun _=>rfl,fun h=>absurd h (by decide),fun _=>rfl⟩)
      go_wp2_with fail;go_ret;exact⟨rfl,HKc.out.below⟩
     ·have f1:(xv != 0)=true:=by simpa using h1
      obtain rfl:z=1:=by
       rw[← HZ.out];exact opE_no HY.out HAC.out fun h=>h1 ((HIF.out.1 h).2.2.2.2 (by decide))
      go_wp2_with fail;go_ret;exact⟨rfl,HKc.out.below⟩
    ·have f8:(xs.toList==(ByteArray.mk #[]).toList)=false:=bytes_ne hs
     have f9:(xs.toList != (ByteArray.mk #[]).toList)=true:=by unfold bne;rw[f8];rfl
     have e0:(ByteArray.mk #[]).toList=[]:=by rw[ByteArray.toList_eq]
     have f10:=f8;have f11:=f9;rw[e0]at f10 f11;clear e0
     obtain rfl:z=1:=by
      rw[← HZ.out];exact opE_no HY.out HAC.out fun h=>hs ((HIF.out.1 h).2.2.1 (by decide))
     go_wp2_with fail;go_ret;exact⟨rfl,HKc.out.below⟩
   ·obtain⟨ky,hky⟩:∃ k,keyB xs=k:=⟨_,rfl⟩
    have HKY:=Lib.hid hky;clear hky;obtain⟨c0,c1,c2,c3,c4,-⟩:=HKc.out.cj;go_wp2_with fail;refine (refkey_any xs v13).mono ?_;rw[HKY.out];rintro e v99 ⟨rfl,rfl⟩
    cases ky with
    | false=>
     obtain rfl:z=1:=by
      rw[← HZ.out]
      exact opE_no HY.out HAC.out fun h=>by have h2:=keyB_iff.2 ((HIF.out.1 h).1 (by decide));rw[HKY.out]at h2;cases h2
     go_wp2_with fail;go_ret;exact⟨rfl,HKc.out.below⟩
    | true=>
     by_cases h1:xv=0
     ·subst h1
      obtain rfl:z=0:=by
       rw[← HZ.out];exact opE_ok (HIF.out.2 ⟨fun _=>keyB_iff.1 HKY.out,fun h=>absurd h (by decide),fun h=>absurd (by decide) h,fun h=>absurd h (by decide),fun _=>rfl⟩)
      go_wp2_with fail;go_ret;exact⟨rfl,HKc.out.below⟩
     ·have f1:(xv != 0)=true:=by simpa using h1
      obtain rfl:z=1:=by
       rw[← HZ.out];exact opE_no HY.out HAC.out fun h=>h1 ((HIF.out.1 h).2.2.2.2 (by decide))
      go_wp2_with fail;go_ret;exact⟨rfl,HKc.out.below⟩
   ·obtain⟨ky,hky⟩:∃ k,keyB xs=k:=⟨_,rfl⟩
    have HKY:=Lib.hid hky;clear hky;obtain⟨c0,c1,c2,c3,c4,-⟩:=HKc.out.cj;go_wp2_with fail;refine (refkey_any xs v13).mono ?_;rw[HKY.out];rintro e v99 ⟨rfl,rfl⟩
    cases ky with
    | false=>
     obtain rfl:z=1:=by
      rw[← HZ.out]
      exact opE_no HY.out HAC.out fun h=>by have h2:=keyB_iff.2 ((HIF.out.1 h).1 (by decide));rw[HKY.out]at h2;cases h2
     go_wp2_with fail;go_ret;exact⟨rfl,HKc.out.below⟩
    | true=>
     by_cases h1:xv=0
     ·subst h1
      obtain rfl:z=0:=by
       rw[← HZ.out];exact opE_ok (HIF.out.2 ⟨fun _=>keyB_iff.1 HKY.out,fun h=>absurd h (by decide),fun h=>absurd (by decide) h,fun h=>absurd h (by decide),fun _=>rfl⟩)
      go_wp2_with fail;go_ret;exact⟨rfl,HKc.out.below⟩
     ·have f1:(xv != 0)=true:=by simpa using h1
      obtain rfl:z=1:=by
       rw[← HZ.out];exact opE_no HY.out HAC.out fun h=>h1 ((HIF.out.1 h).2.2.2.2 (by decide))
      go_wp2_with fail;go_ret;exact⟨rfl,HKc.out.below⟩
   ·have c0:=HKc.out.c0
    have c1:=HKc.out.c1;have c2:=HKc.out.c2;have c3:=HKc.out.c3;have c4:=HKc.out.c4
    by_cases hs:xs=⟨#[]⟩
    ·subst hs
     by_cases h1:1099511627776<xv
     ·have f1:decide (1099511627776<xv)=true:=decide_eq_true h1
      obtain rfl:z=1:=by
       rw[← HZ.out]
       exact opE_no HY.out HAC.out fun h=>by have h2:=((HIF.out.1 h).2.2.2.1 rfl);omega
      go_wp2_with fail;go_ret;exact⟨rfl,HKc.out.below⟩
     have f1:decide (1099511627776<xv)=false:=decide_eq_false h1
     by_cases h2:xv < -1099511627776
     ·have f2:decide (xv < -1099511627776)=true:=decide_eq_true h2
      obtain rfl:z=1:=by
       rw[← HZ.out]
       exact opE_no HY.out HAC.out fun h=>by have h2:=((HIF.out.1 h).2.2.2.1 rfl);omega
      go_wp2_with fail;go_ret;exact⟨rfl,HKc.out.below⟩
     have f2:decide (xv < -1099511627776)=false:=decide_eq_false h2
     obtain rfl:z=0:=by
      rw[← HZ.out];exact opE_ok (HIF.out.2 ⟨fun h=>absurd h (by decide),fun h=>absurd h (by decide),fun _=>rfl,fun _=>⟨by omega,by omega⟩,fun h=>absurd rfl h⟩)
     go_wp2_with fail;go_ret;exact⟨rfl,HKc.out.below⟩
    ·have f8:(xs.toList==(ByteArray.mk #[]).toList)=false:=bytes_ne hs
     have f9:(xs.toList != (ByteArray.mk #[]).toList)=true:=by unfold bne;rw[f8];rfl
     have e0:(ByteArray.mk #[]).toList=[]:=by rw[ByteArray.toList_eq]
     have f10:=f8;have f11:=f9;rw[e0]at f10 f11;clear e0
     obtain rfl:z=1:=by
      rw[← HZ.out];exact opE_no HY.out HAC.out fun h=>hs ((HIF.out.1 h).2.2.1 (by decide))
     go_wp2_with fail;go_ret;exact⟨rfl,HKc.out.below⟩
   ·have c0:=HKc.out.c0
    have c1:=HKc.out.c1;have c2:=HKc.out.c2;have c3:=HKc.out.c3;have c4:=HKc.out.c4
    by_cases h30:30<xs.size
    ·have f30:decide ((30:Int)<(xs.size:Int))=true:=decide_eq_true (by omega)
     obtain rfl:z=1:=by
      rw[← HZ.out]
      exact opE_no HY.out HAC.out fun h=>by have h2:=(HIF.out.1 h).2.1 rfl;omega
     go_wp2_with fail;go_ret;exact⟨rfl,HKc.out.below⟩
    have f30:decide ((30:Int)<(xs.size:Int))=false:=decide_eq_false (by omega)
    by_cases h1:xv=0
    ·subst h1
     obtain rfl:z=0:=by
      rw[← HZ.out];exact opE_ok (HIF.out.2 ⟨fun h=>absurd h (by decide),fun _=>by omega,fun h=>absurd (by decide) h,fun h=>absurd h (by decide),fun _=>rfl⟩)
     go_wp2_with fail;go_ret;exact⟨rfl,HKc.out.below⟩
    ·have f1:(xv != 0)=true:=by simpa using h1
     obtain rfl:z=1:=by
      rw[← HZ.out];exact opE_no HY.out HAC.out fun h=>h1 ((HIF.out.1 h).2.2.2.2 (by decide))
     go_wp2_with fail;go_ret;exact⟨rfl,HKc.out.below⟩
   ·have c0:=HKc.out.c0
    have c1:=HKc.out.c1;have c2:=HKc.out.c2;have c3:=HKc.out.c3;have c4:=HKc.out.c4
    by_cases hs:xs=⟨#[]⟩
    ·subst hs
     by_cases h1:xv=0
     ·subst h1
      obtain rfl:z=0:=by
       rw[← HZ.out];exact opE_ok (HIF.out.2 ⟨fun h=>absurd h (by decide),fun h=>absurd h (by decide),fun _=>rfl,fun h=>absurd h (by decide),fun _=>rfl⟩)
      go_wp2_with fail;go_ret;exact⟨rfl,HKc.out.below⟩
     ·have f1:(xv != 0)=true:=by simpa using h1
      obtain rfl:z=1:=by
       rw[← HZ.out];exact opE_no HY.out HAC.out fun h=>h1 ((HIF.out.1 h).2.2.2.2 (by decide))
      go_wp2_with fail;go_ret;exact⟨rfl,HKc.out.below⟩
    ·have f8:(xs.toList==(ByteArray.mk #[]).toList)=false:=bytes_ne hs
     have f9:(xs.toList != (ByteArray.mk #[]).toList)=true:=by unfold bne;rw[f8];rfl
     have e0:(ByteArray.mk #[]).toList=[]:=by rw[ByteArray.toList_eq]
     have f10:=f8;have f11:=f9;rw[e0]at f10 f11;clear e0
     obtain rfl:z=1:=by
      rw[← HZ.out];exact opE_no HY.out HAC.out fun h=>hs ((HIF.out.1 h).2.2.1 (by decide))
     go_wp2_with fail;go_ret;exact⟨rfl,HKc.out.below⟩
 ·obtain rfl:z=y:=by
   rw[← HZ.out,← HY.out];exact opE_path (by rw[HY.out];exact hy0)
  have f0:(z != 0)=true:=by simpa using hy0
  go_wp2_with fail;go_ret;exact⟨rfl,HKc.out.below⟩
end Cs
end Go.Proofs.YtcbpgemiffmieaaGreat
