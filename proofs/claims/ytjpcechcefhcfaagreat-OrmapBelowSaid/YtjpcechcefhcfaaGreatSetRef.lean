/- Sets: a key, the elements, two lists, a list without one: the document's. -/
import Derived.Test.YtjpcechcefhcfaaGreatSet3
import Derived.Test.YtjpcechcefhcfaaGreatG00
set_option maxRecDepth 100000
set_option maxHeartbeats 4000000
namespace Go.Proofs.YtjpcechcefhcfaaGreat
open Go.ChangeShapes Go.WideShapes Go.ChangeAt Go.RowKit
namespace Cs
open Tr Cx Sp Rw Classical
theorem refkid_any (t:T) (Ae Ak:Option Addr) (ne nk ce ck:Nat) (s:ByteArray) (w:World) (z:Bool) (hz:decide (s∈keysOf t.ks)=z) (hl:LenT reachBytes t) (hn:nodes t≤1000) (hr:RdT w w.heap.size t ⟨Ae,ne,ce⟩ ⟨Ak,nk,ck⟩) :
  Calls Tryz.prog 17 #[.agg #[.slice Ae ne ce,.slice Ak nk ck],.string s] w fun e w'=>e = .returned (.bool z)∧Below w.heap.size w w':=by
 have HZ:=Lib.hid hz;clear hz
 cases t with
 | mk es ks=>
  obtain⟨hle,hlk⟩:=rd_lens hr;have HR:=Lib.hid hr;have HL:=Lib.hid hl;have HLK:=Lib.hid hlk
  have hnk:nk≤1000:=by have:=nodes_es es ks;omega
  have hkn:∀ k∈ks,nodes k.2≤1000:=fun k hk=>by have:=nodes_kid (es:=es) hk;omega
  have HKN:=Lib.hid hkn;clear hle hlk hr hl hn hkn;obtain⟨g,hg⟩:∃ g,g=w.heap.size:=⟨_,rfl⟩;have HK:=Lib.hid (tree_box w Ae Ak ne nk ce ck);rw[← hg]at HK;obtain⟨W0,hW0⟩:∃ W,W=w.alloc (.cells #[.slice Ae ne ce,.slice Ak nk ck] 25):=⟨_,rfl⟩;rw[← hW0]at HK;have HG:=Lib.hid hg;have HW0:=Lib.hid hW0;have k0:=HK.out.c0;have k1:=HK.out.c1;clear hg hW0;go_enter Tryz.func17,Tryz.ntmps17;go_wp2_with fail;rw[← HG.out,← HW0.out];go_wp2_with fail
  go_loopw [9] (fun i wr=>∃ (k:Nat),k≤nk∧i = .int .i64 k∧Hid (∀ (j:Nat) (h:j<ks.length),j<k→¬(ks[j]).1=s)∧Hid (Kept [(⟨g,0,none⟩,.slice Ae ne ce),(⟨g,1,none⟩,.slice Ak nk ck)] w wr)) (fun i _=>nk-(intOf i).toNat)
  case atStart=>exact⟨0,by omega,rfl,fun j _ h=>absurd h (by omega),HK.out⟩
  case round=>
   obtain⟨k,hk,rfl,HI,HKW⟩:=hrel;clear k0 k1;have k0:=HKW.out.c0;have k1:=HKW.out.c1
   by_cases hlt:k<nk
   ·have hbw:=HKW.out.below
    have hkl:k<ks.length:=by rw[HLK.out];exact hlt
    obtain⟨b,o,rfl,hb,hc⟩:=rd_kid HR.out (by omega);obtain⟨⟨Ae',ne',ce'⟩,⟨Ak',nk',ck'⟩,c0,c1,c2,hkid⟩:=hc k hkl;dsimp only at c0 c1 c2;have c0:=(hbw.cell (p:=⟨b,o+k*3,none⟩) hb).trans c0;have c1:=(hbw.cell (p:=⟨b,o+k*3+1,none⟩) hb).trans c1;have c2:=(hbw.cell (p:=⟨b,o+k*3+2,none⟩) hb).trans c2;obtain⟨key,hkey⟩:∃ key,key=(ks[k]).1:=⟨_,rfl⟩;rw[← hkey]at c0
    have hle':(ks[k]).2.es.length=ne':=by
     have h:=hkid;rw[← T.eta (ks[k]).2]at h;exact (rd_lens h).1
    by_cases hks:key=s
    ·obtain rfl:z=true:=by
      rw[← HZ.out];refine decide_eq_true (List.mem_map.2 ⟨ks[k],List.getElem_mem hkl,?_⟩);rw[← hkey];exact hks
     subst hks;clear hc hkid hle' hkey hbw;go_wp2_with fail;go_ret;exact⟨rfl,HKW.out.below⟩
    ·have fk:(key.toList==s.toList)=false:=bytes_ne hks
     have HI2:Hid (∀ (j:Nat) (h:j<ks.length),j<k+1→¬(ks[j]).1=s):=fun j hj hjk=>by
      by_cases e:j=k
      ·subst e;rw[← hkey];exact hks
      ·exact HI.out j hj (by omega)
     clear hc hkid hle' hkey hbw hks;go_wp2_with fail;go_roundw
     case rel=>exact⟨k+1,by omega,by go_num,HI2.out,HKW.out⟩
     case measure=>simp[intOf];omega
   ·obtain rfl:k=nk:=by omega
    obtain rfl:z=false:=by
     rw[← HZ.out];refine decide_eq_false fun h=>?_;obtain⟨x,hx,hxs⟩:=List.mem_map.1 h;obtain⟨j,hj,rfl⟩:=List.getElem_of_mem hx;exact HI.out j hj (by rw[← HLK.out];exact hj) hxs
    go_wp2_with fail;go_ret;exact⟨rfl,HKW.out.below⟩
theorem refalike_any (a b:List ByteArray) (n m:Nat) (A B:Option Addr) (c d:Nat) (w:World) (hn:n≤1000) (hra:Rd w w.heap.size 1 A n c (strs a)) (hrb:Rd w w.heap.size 1 B m d (strs b)) (z:Bool) (hz:decide (a=b)=z) :
  Calls Tryz.prog 24 #[.slice A n c,.slice B m d] w fun e w'=>e = .returned (.bool z)∧Below w.heap.size w w':=by
 have HZ:=Lib.hid hz;have HA:=Lib.hid hra;have HB:=Lib.hid hrb;have HLA:=Lib.hid (rd_len1 hra);have HLB:=Lib.hid (rd_len1 hrb);clear hra hrb hz
 by_cases hnm:n=m
 ·subst hnm
  have f0:(n != n)=false:=by simp
  go_enter Tryz.func24,Tryz.ntmps24;go_wp2
  go_loopw [13] (fun i wr=>∃ (k:Nat),k≤n∧i = .int .i64 k∧Hid (a.take k=b.take k)∧Hid (Below w.heap.size w wr)) (fun i _=>n-(intOf i).toNat)
  case atStart=>exact⟨0,by omega,rfl,Lib.hid (by rw[List.take_zero,List.take_zero]),Below.refl _ _⟩
  case round=>
   obtain⟨k,hk,rfl,HT,HBL⟩:=hrel
   by_cases hlt:k<n
   ·have hka:k<a.length:=by rw[HLA.out];exact hlt
    have hkb:k<b.length:=by rw[HLB.out];exact hlt
    obtain⟨g,o,rfl,hgl,hc⟩:=rd_text HA.out (by omega);obtain⟨g2,o2,rfl,hgl2,hc2⟩:=rd_text HB.out (by omega);have q0:=(HBL.out.cell (p:=⟨g,o+k,none⟩) hgl).trans (hc k hka);have r0:=(HBL.out.cell (p:=⟨g2,o2+k,none⟩) hgl2).trans (hc2 k hkb);have hT1:a.take (k+1)=a.take k++[a[k]]:=List.take_succ_eq_append_getElem hka;have hT2:b.take (k+1)=b.take k++[b[k]]:=List.take_succ_eq_append_getElem hkb;obtain⟨x,hx⟩:∃ x,x=a[k]:=⟨_,rfl⟩;obtain⟨y,hy⟩:∃ y,y=b[k]:=⟨_,rfl⟩;rw[← hx]at q0 hT1;rw[← hy]at r0 hT2
    by_cases h0:x=y
    ·subst h0
     have HT2:Hid (a.take (k+1)=b.take (k+1)):=by unfold Hid;rw[hT1,hT2,HT.out]
     clear hc hc2 hT1 hT2 hx hy;go_wp2
     go_quiet (fail)
     go_wp2;go_roundw
     case rel=>exact⟨k+1,by omega,by go_num,HT2.out,bel_drewN HBL.out _⟩
     case measure=>simp[intOf];omega
    ·have f2:(x.toList==y.toList)=false:=bytes_ne h0
     have f3:(x.toList != y.toList)=true:=by unfold bne;rw[f2];rfl
     obtain rfl:z=false:=by
      rw[← HZ.out];refine decide_eq_false fun e=>?_;subst e;exact h0 (hx.trans hy.symm)
     clear hc hc2 hT1 hT2 hx hy h0;go_wp2
     go_quiet (fail)
     go_wp2;go_ret;exact⟨rfl,bel_drewN HBL.out _⟩
   ·obtain rfl:k=n:=by omega
    obtain rfl:z=true:=by
     rw[← HZ.out];have h:=HT.out;rw[List.take_of_length_le (by rw[HLA.out];omega),List.take_of_length_le (by rw[HLB.out];omega)]at h;exact decide_eq_true h
    go_wp2;go_ret;exact⟨rfl,HBL.out⟩
 ·have f0:(n != m)=true:=by simpa using hnm
  have f1:((n:Int) != (m:Int))=true:=by simp;omega
  obtain rfl:z=false:=by
   rw[← HZ.out];refine decide_eq_false fun e=>hnm ?_;rw[← HLA.out,← HLB.out,e]
  go_enter Tryz.func24,Tryz.ntmps24;go_wp2;go_ret;exact⟨rfl,Below.refl _ _⟩
end Cs
end Go.Proofs.YtjpcechcefhcfaaGreat
