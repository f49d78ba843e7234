/- The library's two binary searches: over kids, over texts. -/
import Derived.Test.YtgeafpaognhokaaGreatG00
set_option maxRecDepth 100000
set_option maxHeartbeats 4000000
namespace Go.Proofs.YtgeafpaognhokaaGreat
open Go.ChangeShapes Go.WideShapes Go.ChangeAt Go.RowKit
namespace Tr
open Sp Rw
structure Srch (l:List ByteArray) (x:ByteArray) (lo hi:Nat):Prop where
 low:∀ (i:Nat) (h:i<l.length),i<lo→ltS l[i] x
 high:∀ (i:Nat) (h:i<l.length),hi≤i→¬ltS l[i] x
theorem Srch.start (l:List ByteArray) (x:ByteArray) {n:Nat} (h:l.length=n):Srch l x 0 n:=⟨fun _ _ h=>absurd h (Nat.not_lt_zero _),fun i hi hn=>by omega⟩
theorem Srch.up {l:List ByteArray} {x:ByteArray} {lo hi m:Nat} (h:Srch l x lo hi) (hs:l.Pairwise fun a b=>¬ltS b a) (hm:m<l.length) (h1:ltS l[m] x):Srch l x (m+1) hi:=
 ⟨fun i hi hlt=>by
  by_cases he:i=m
  ·subst he;exact h1
  ·have:=List.pairwise_iff_getElem.1 hs i m hi hm (by omega)
   rcases tot_str.tri l[i] x with h2 | h2 | h2
   ·exact h2
   ·rw[h2]at this;exact absurd h1 this
   ·exact absurd (tot_str.tr _ _ _ h1 h2) this,h.high⟩
theorem Srch.down {l:List ByteArray} {x:ByteArray} {lo hi m:Nat} (h:Srch l x lo hi) (hs:l.Pairwise fun a b=>¬ltS b a) (hm:m<l.length) (h1:¬ltS l[m] x):Srch l x lo m:=
 ⟨h.low,fun i hi hle=>by
  by_cases he:i=m
  ·subst he;exact h1
  ·have:=List.pairwise_iff_getElem.1 hs m i hm hi (by omega)
   exact fun h2=>h1 (by
    rcases tot_str.tri l[m] l[i]with h3 | h3 | h3
    ·exact tot_str.tr _ _ _ h3 h2
    ·rw[h3];exact h2
    ·exact absurd h3 this)⟩
theorem Srch.found {l:List ByteArray} {x:ByteArray} {i:Nat} (h:Srch l x i i) (hs:l.Pairwise fun a b=>¬ltS b a):x∈l↔∃ hi:i<l.length,l[i]=x:=by
 constructor
 ·intro hx
  obtain⟨j,hj,rfl⟩:=List.getElem_of_mem hx
  have h1:i≤j:=by
   rcases Nat.lt_or_ge j i with h1 | h1
   ·exact absurd (h.low j hj h1) (tot_str.irr _)
   ·exact h1
  have hi:i<l.length:=by omega
  refine⟨hi,?_⟩
  rcases Nat.lt_or_ge i j with h2 | h2
  ·have h3:=List.pairwise_iff_getElem.1 hs i j hi hj h2
   have h4:=h.high i hi (Nat.le_refl _)
   rcases tot_str.tri l[i] l[j]with h5 | h5 | h5
   ·exact absurd h5 h4
   ·exact h5
   ·exact absurd h5 h3
  ·have:i=j:=by omega
   subst this;rfl
 ·rintro⟨hi,rfl⟩
  exact List.getElem_mem hi
def keysOf (ks:List (ByteArray×T)):List ByteArray:=ks.map fun k=>k.1
theorem keysOf_len (ks:List (ByteArray×T)):(keysOf ks).length=ks.length:=List.length_map _
theorem keysOf_at (ks:List (ByteArray×T)) (i:Nat) (h:i<(keysOf ks).length):(keysOf ks)[i]=(ks[i]'(by rwa [keysOf_len]at h)).1:=List.getElem_map _
def strs (l:List ByteArray):List Value:=l.map Value.string
theorem strs_one (l:List ByteArray):∀ u∈strs l,u.oneCell'=true:=by
 intro u hu;obtain⟨x,_,rfl⟩:=List.mem_map.1 hu;rfl
theorem searchK_any (es:List E) (ks:List (ByteArray×T)) (Ae Ak:Option Addr) (ne nk ce ck:Nat) (x:ByteArray) (w:World) (hn:nk≤1000000) (hr:RdT w w.heap.size (.mk es ks) ⟨Ae,ne,ce⟩ ⟨Ak,nk,ck⟩) (hs:(keysOf ks).Pairwise fun a b=>¬ltS b a) :
  Calls Tryz.prog 100 #[.slice Ak nk ck,.string x,.func (.func 101) #[] #[]] w fun e w'=>∃ (i:Nat) (f:Bool),e = .returned (.tuple #[.int .i64 i,.bool f])∧((f=true→i<nk∧∀ h:i<ks.length,(ks[i]).1=x)∧(f=false→¬x∈keysOf ks))∧Below w.heap.size w w':=by
 have HLK:Hid (ks.length=nk):=(rd_lens hr).2;have HS0:Hid (Srch (keysOf ks) x 0 nk):=Srch.start _ _ (by rw[keysOf_len];exact (rd_lens hr).2);have HR:=Lib.hid hr;have HSS:Hid ((keysOf ks).Pairwise fun a b=>¬ltS b a):=hs;clear hr hs;go_enter Tryz.func100,Tryz.ntmps100;go_wp2_with fail
 go_loopw [9,10] (fun a b wr=>∃ lo hi:Nat,a = .int .i64 lo∧b = .int .i64 hi∧lo≤hi∧hi≤nk∧Hid (Srch (keysOf ks) x lo hi)∧Hid (Below w.heap.size w wr)) (fun a b _=>(intOf b).toNat-(intOf a).toNat)
 case atStart=>exact⟨0,nk,rfl,rfl,Nat.zero_le _,Nat.le_refl _,HS0.out,Below.refl _ _⟩
 case round=>
  obtain⟨lo,hi,rfl,rfl,hlh,hin,HS,HB⟩:=hrel
  by_cases hlt:lo<hi
  ·have hm1:(lo+hi) / 2<nk:=by omega
   obtain⟨b,o,rfl,hbb,hc⟩:=rd_kid HR.out (by omega)
   have hml:(lo+hi) / 2<ks.length:=by rw[HLK.out];omega
   obtain⟨⟨Ae',ne',ce'⟩,⟨Ak',nk',ck'⟩,c0,c1,c2,_⟩:=hc ((lo+hi) / 2) hml;dsimp only at c0 c1 c2;have c0:=(HB.out.cell (p:=⟨b,o+(lo+hi) / 2*3,none⟩) hbb).trans c0;have c1:=(HB.out.cell (p:=⟨b,o+(lo+hi) / 2*3+1,none⟩) hbb).trans c1;have c2:=(HB.out.cell (p:=⟨b,o+(lo+hi) / 2*3+2,none⟩) hbb).trans c2;obtain⟨y,hy⟩:∃ y,y=(ks[(lo+hi) / 2]).1:=⟨_,rfl⟩;rw[← hy]at c0
   have hmk:(lo+hi) / 2<(keysOf ks).length:=by rw[keysOf_len];exact hml
   have hyk:(keysOf ks)[(lo+hi) / 2]=y:=by rw[keysOf_at,hy]
   clear hc hy;obtain⟨c,hc⟩:∃ c,cmpS y x=c:=⟨_,rfl⟩;have HC:=Lib.hid hc
   have HLT:Hid (ltS (keysOf ks)[(lo+hi) / 2] x↔c<0):=by unfold Hid;rw[hyk,← hc];exact (cmpS_lt _ _).symm
   clear hc hyk
   by_cases hlt2:c<0
   ·have f1:decide (c<0)=true:=decide_eq_true hlt2
    have HS2:=Lib.hid (HS.out.up HSS.out hmk (HLT.out.2 hlt2));go_wp2_with (go_at_call 101;refine (getcmp_any _ _ _ _ _ _ _ _ _).mono ?_;rw[HC.out];rintro e w2 ⟨rfl,hb2⟩;have HB:=Lib.hid (HB.out.trans (hb2.mono HB.out.size));clear hb2);go_roundw
    case rel=>refine⟨(lo+hi) / 2+1,hi,by rw[show ((lo:Int)+(hi:Int)) / 2+1=(((lo+hi) / 2+1:Nat):Int) by omega],rfl,by omega,hin,HS2.out,HB.out⟩
    case measure=>simp[intOf];omega
   ·have f1:decide (c<0)=false:=decide_eq_false hlt2
    have HS2:=Lib.hid (HS.out.down HSS.out hmk (fun h=>hlt2 (HLT.out.1 h)));go_wp2_with (go_at_call 101;refine (getcmp_any _ _ _ _ _ _ _ _ _).mono ?_;rw[HC.out];rintro e w2 ⟨rfl,hb2⟩;have HB:=Lib.hid (HB.out.trans (hb2.mono HB.out.size));clear hb2);go_roundw
    case rel=>refine⟨lo,(lo+hi) / 2,rfl,by rw[show ((lo:Int)+(hi:Int)) / 2=(((lo+hi) / 2:Nat):Int) by omega],by omega,by omega,HS2.out,HB.out⟩
    case measure=>simp[intOf];omega
  ·obtain rfl:hi=lo:=by omega
   have HF:=Lib.hid (HS.out.found HSS.out)
   by_cases hn:hi<nk
   ·obtain⟨b,o,rfl,hbb,hc⟩:=rd_kid HR.out (by omega)
    have hml:hi<ks.length:=by rw[HLK.out];omega
    obtain⟨⟨Ae',ne',ce'⟩,⟨Ak',nk',ck'⟩,c0,c1,c2,_⟩:=hc (hi) hml;dsimp only at c0 c1 c2;have c0:=(HB.out.cell (p:=⟨b,o+hi*3,none⟩) hbb).trans c0;have c1:=(HB.out.cell (p:=⟨b,o+hi*3+1,none⟩) hbb).trans c1;have c2:=(HB.out.cell (p:=⟨b,o+hi*3+2,none⟩) hbb).trans c2;obtain⟨y,hy⟩:∃ y,y=(ks[hi]).1:=⟨_,rfl⟩;rw[← hy]at c0
    have hmk:hi<(keysOf ks).length:=by rw[keysOf_len];exact hml
    have hyk:(keysOf ks)[hi]=y:=by rw[keysOf_at,hy]
    clear hc hy;obtain⟨c,hc⟩:∃ c,cmpS y x=c:=⟨_,rfl⟩;have HC:=Lib.hid hc
    have HEQ:Hid (c=0↔(keysOf ks)[hi]=x):=by unfold Hid;rw[hyk,← hc];exact cmpS_eq _ _
    clear hc hyk
    by_cases h0:c=0
    ·have f1:(c==0)=true:=by simpa using h0
     have HZ:=Lib.hid (HEQ.out.1 h0);clear h0;go_wp2_with (go_at_call 101;refine (getcmp_any _ _ _ _ _ _ _ _ _).mono ?_;rw[HC.out];rintro e w2 ⟨rfl,hb2⟩;have HB:=Lib.hid (HB.out.trans (hb2.mono HB.out.size));clear hb2);go_ret2;exact⟨hi,true,by simp,⟨fun _=>⟨by omega,fun h=>by have:=HZ.out;rwa [keysOf_at]at this⟩,fun h=>absurd h (by simp)⟩,HB.out⟩
    ·have f1:(c==0)=false:=by simpa using h0
     have HZ:Hid (¬(keysOf ks)[hi]=x):=fun h=>h0 (HEQ.out.2 h);clear h0;go_wp2_with (go_at_call 101;refine (getcmp_any _ _ _ _ _ _ _ _ _).mono ?_;rw[HC.out];rintro e w2 ⟨rfl,hb2⟩;have HB:=Lib.hid (HB.out.trans (hb2.mono HB.out.size));clear hb2);go_ret2;exact⟨hi,false,by simp,⟨fun h=>absurd h (by simp),fun _ h=>by obtain⟨_,h⟩:=HF.out.1 h;exact HZ.out h⟩,HB.out⟩
   ·have f1:decide ((hi:Int)<(nk:Int))=false:=decide_eq_false (by omega)
    go_wp2_with fail;go_ret2;exact⟨hi,false,by simp,⟨fun h=>absurd h (by simp),fun _ h=>by obtain⟨h,_⟩:=HF.out.1 h;rw[keysOf_len,HLK.out]at h;omega⟩,HB.out⟩
theorem searchS_any (l:List ByteArray) (n:Nat) (A:Option Addr) (c:Nat) (x:ByteArray) (w:World) (hl:l.length=n) (hn:n≤1000000) (hr:Rd w w.heap.size 1 A n c (strs l)) (hs:l.Pairwise fun a b=>¬ltS b a) :
  Calls Tryz.prog 173 #[.slice A n c,.string x] w fun e w'=>∃ (i:Nat) (f:Bool),e = .returned (.tuple #[.int .i64 i,.bool f])∧((f=true→x∈l)∧(f=false→¬x∈l))∧Below w.heap.size w w':=by
 have HLK:Hid (l.length=n):=hl;have HS0:Hid (Srch l x 0 n):=Srch.start _ _ (hl);have HR:=Lib.hid hr;have HSS:Hid (l.Pairwise fun a b=>¬ltS b a):=hs;clear hr hs hl;go_enter Tryz.func173,Tryz.ntmps173;go_wp2_with fail
 go_loopw [7,8] (fun a b wr=>∃ lo hi:Nat,a = .int .i64 lo∧b = .int .i64 hi∧lo≤hi∧hi≤n∧Hid (Srch l x lo hi)∧Hid (Below w.heap.size w wr)) (fun a b _=>(intOf b).toNat-(intOf a).toNat)
 case atStart=>exact⟨0,n,rfl,rfl,Nat.zero_le _,Nat.le_refl _,HS0.out,Below.refl _ _⟩
 case round=>
  obtain⟨lo,hi,rfl,rfl,hlh,hin,HS,HB⟩:=hrel
  by_cases hlt:lo<hi
  ·have hm1:(lo+hi) / 2<n:=by omega
   obtain⟨b,o,rfl,hbb,hc⟩:=HR.out.at_ (by omega)
   have hmk:(lo+hi) / 2<l.length:=by rw[HLK.out];omega
   obtain⟨y,hyk⟩:∃ y,l[(lo+hi) / 2]=y:=⟨_,rfl⟩;have c0:=(HB.out.cell (p:=⟨b,o+(lo+hi) / 2,none⟩) hbb).trans (hc ((lo+hi) / 2) (.string y) (by rw[← hyk];simp[strs,hmk]));clear hc;obtain⟨c,hc⟩:∃ c,Op.bytesLess y.toList x.toList=c:=⟨_,rfl⟩;have HC:=Lib.hid hc
   have HLT:Hid (ltS l[(lo+hi) / 2] x↔c=true):=by unfold Hid;rw[hyk];unfold ltS;rw[hc]
   clear hc hyk
   by_cases hlt2:c=true
   ·subst hlt2
    have HS2:=Lib.hid (HS.out.up HSS.out hmk (HLT.out.2 rfl));go_wp2_with (first | (go_at_call 200;refine (less_s _ _ _ _ HC.out).mono ?_;rintro e w2 ⟨rfl,rfl⟩) | (go_at_call 201;refine (nan_sl _ _).mono ?_;rintro e w2 ⟨rfl,rfl⟩));go_roundw
    case rel=>refine⟨(lo+hi) / 2+1,hi,by rw[show ((lo:Int)+(hi:Int)) / 2+1=(((lo+hi) / 2+1:Nat):Int) by omega],rfl,by omega,hin,HS2.out,HB.out⟩
    case measure=>simp[intOf];omega
   ·obtain rfl:c=false:=by simpa using hlt2
    clear hlt2;have HS2:=Lib.hid (HS.out.down HSS.out hmk (fun h=>by have:=HLT.out.1 h;simp at this));go_wp2_with (first | (go_at_call 200;refine (less_s _ _ _ _ HC.out).mono ?_;rintro e w2 ⟨rfl,rfl⟩) | (go_at_call 201;refine (nan_sl _ _).mono ?_;rintro e w2 ⟨rfl,rfl⟩));go_roundw
    case rel=>refine⟨lo,(lo+hi) / 2,rfl,by rw[show ((lo:Int)+(hi:Int)) / 2=(((lo+hi) / 2:Nat):Int) by omega],by omega,by omega,HS2.out,HB.out⟩
    case measure=>simp[intOf];omega
  ·obtain rfl:hi=lo:=by omega
   have HF:=Lib.hid (HS.out.found HSS.out)
   by_cases hn:hi<n
   ·obtain⟨b,o,rfl,hbb,hc⟩:=HR.out.at_ (by omega)
    have hmk:hi<l.length:=by rw[HLK.out];omega
    obtain⟨y,hyk⟩:∃ y,l[hi]=y:=⟨_,rfl⟩;have c0:=(HB.out.cell (p:=⟨b,o+hi,none⟩) hbb).trans (hc (hi) (.string y) (by rw[← hyk];simp[strs,hmk]));clear hc
    by_cases h0:y=x
    ·subst h0
     have HZ:=Lib.hid hyk;clear hyk;go_wp2_with (first | (go_at_call 200;refine (less_s _ _ _ _ rfl).mono ?_;rintro e w2 ⟨rfl,rfl⟩) | (go_at_call 201;refine (nan_sl _ _).mono ?_;rintro e w2 ⟨rfl,rfl⟩));go_ret2;exact⟨hi,true,by simp,⟨fun _=>HF.out.2 ⟨hmk,HZ.out⟩,fun h=>absurd h (by simp)⟩,HB.out⟩
    ·have HZ:Hid (¬l[hi]=x):=by rw[hyk];exact h0
     have hne:(y.toList==x.toList)=false:=by
      rw[beq_eq_false_iff_ne];exact fun h=>h0 (bytes_ext h)
     clear hyk h0;go_wp2_with (first | (go_at_call 200;refine (less_s _ _ _ _ rfl).mono ?_;rintro e w2 ⟨rfl,rfl⟩) | (go_at_call 201;refine (nan_sl _ _).mono ?_;rintro e w2 ⟨rfl,rfl⟩));go_ret2;exact⟨hi,false,by simp,⟨fun h=>absurd h (by simp),fun _ h=>by obtain⟨_,h⟩:=HF.out.1 h;exact HZ.out h⟩,HB.out⟩
   ·have f1:decide ((hi:Int)<(n:Int))=false:=decide_eq_false (by omega)
    go_wp2_with fail;go_ret2;exact⟨hi,false,by simp,⟨fun h=>absurd h (by simp),fun _ h=>by obtain⟨h,_⟩:=HF.out.1 h;rw[HLK.out]at h;omega⟩,HB.out⟩
end Tr
end Go.Proofs.YtgeafpaognhokaaGreat
