/- The set of numbers: the program's. It sorts a copy by the library's sort. -/
import Derived.Test.YtjpcechcefhcfaaGreatSpanRefOf
import Derived.Test.YtjpcechcefhcfaaGreatG00
import Derived.Sort.OwnSortedInts
import Derived.Lib.SliceRun
namespace Go.Proofs.YtjpcechcefhcfaaGreat
open Go.ChangeShapes Go.WideShapes Go.ChangeAt Go.RowKit
namespace Sp
def srt (ns:List Int):List Int:=ns.mergeSort fun x y=>decide (x≤y)
theorem srt_len (ns:List Int):(srt ns).length=ns.length:=List.length_mergeSort _
theorem srt_mem {ns:List Int} {x:Int} : x∈srt ns↔x∈ns:=List.mem_mergeSort
theorem srt_le (ns:List Int) {i j:Nat} (hi:i<j) (hj:j<(srt ns).length):(srt ns)[i]≤(srt ns)[j]:=by
 have h:=List.pairwise_mergeSort (le:=fun x y:Int=>decide (x≤y)) (by intro a b c;simp;omega) (by intro a b;simp;omega) ns;exact of_decide_eq_true (List.pairwise_iff_getElem.1 h i j (Nat.lt_trans hi hj) hj hi)
theorem own_emptyI (w:World):Own (w.alloc (.cells #[] 2)) w.heap.size 2 1 (some ⟨w.heap.size,0,none⟩) 0 0 (intsC []):=
 ⟨⟨rfl,.inr ⟨w.heap.size,0,#[],rfl,Nat.le_refl _,heap_alloc_new _ _,Nat.le_refl _,by simp[maxLen],rfl,rfl⟩⟩,by simp[intsC]⟩
set_option maxHeartbeats 400000 in
theorem clone_any (ns:List Int) (n:Nat) (A:Option Addr) (c:Nat) (w:World) (hl:ns.length=n) (hn:n≤900000) (hr:Rd w w.heap.size 1 A n c (intsC ns)) :
  Calls Tryz.prog 142 #[.slice A n c] w fun e w'=>∃ A' c',e = .returned (.slice A' n c')∧Own w' w.heap.size 2 1 A' n c' (intsC ns)∧Below w.heap.size w w':=by
 have hnil:∀ (W:World) (a:Option Addr) (n c n' c':Nat),(binOp .eql 112 (.slice a n c) (.slice none n' c')).run Tryz.prog W = .ok (.bool a.isNone) W:=fun W a n c n' c'=>Lib.run_eql_slice_nil W _ _ a n c n' c' Tryz.underlying112
 cases A with
 | none=>
  have hn0:n=0:=by
   rcases Nat.eq_zero_or_pos n with h | h
   ·exact h
   ·obtain⟨b,o,e,_⟩:=hr.at_ h
    cases e
  subst hn0;have:ns=[]:=List.eq_nil_of_length_eq_zero hl;subst this;clear hr hl;go_enter Tryz.func142,Tryz.ntmps142;go_wp2;go_ret;exact⟨none,0,rfl,⟨World.ownsRow_nil _ _ _ _,by simp[intsC]⟩,Below.refl _ _⟩
 | some a=>
  obtain⟨A2,c2,w2,hrun,ho,hb⟩:=run_apps (own_emptyI w) ((hr.alloc (Nat.le_refl _) (.cells #[] 2)).more (by simp)) (by omega) (by simp);rw[List.nil_append,Nat.zero_add]at ho;rw[Nat.zero_add]at hrun;have Hrun:=Lib.hid hrun;have HO:=Lib.hid ho;have HB:=Lib.hid (((Below.refl w.heap.size w).alloc (Nat.le_refl _) (.cells #[] 2)).trans hb);clear hr hl hrun ho hb;go_enter Tryz.func142,Tryz.ntmps142;go_wp2_with (at_builtin;refine Lib.wpList_append_run _ rfl _ _ _ _ rfl _ _ rfl rfl _ _ Hrun.out ?_);go_ret;exact⟨A2,c2,rfl,HO.out,HB.out⟩
theorem sort_own (ns:List Int) (n:Nat) (A:Option Addr) (c base:Nat) (w:World) (hl:ns.length=n) (hn:n≤900000) (ho:Own w base 2 1 A n c (intsC ns)) (hb:base≤w.heap.size) :
  Calls Tryz.prog 143 #[.slice A n c] w fun e w'=>e = .returned (.tuple #[])∧Own w' base 2 1 A n c (intsC (srt ns))∧Below base w w':=by
 rcases Nat.eq_zero_or_pos n with h0 | h0
 ·subst h0
  have:ns=[]:=List.eq_nil_of_length_eq_zero hl;subst this;refine (Go.Proofs.AnyG.slices_Sort_int_none sortI A c w).mono ?_;rintro e w' ⟨rfl,rfl⟩;exact⟨rfl,by rw[show srt []=[] from List.mergeSort_nil];exact ho,Below.refl _ _⟩
 ·subst hl
  rcases ho.row.2 with ⟨_,h⟩ | ⟨g,cap,cur,hv,hg,hh,h1,h2,h3,h4⟩
  ·omega
  ·injection hv with e1 _ e3
   subst e1;subst e3;rw[Nat.mul_one]at h4;refine (Go.Proofs.AnyG.slices_Sort_int sortI g 0 c ns w (holds_of_blockI hh h4) (Array.getElem?_eq_some_iff.1 hh).1 (by omega)).mono ?_;rintro e w' ⟨rfl,k,os,rfl⟩;refine⟨rfl,⟨?_,intsC_one _⟩,(Below.refl base w).grown (grownBy_sortedI _) hb (fun k hk=>by injection hk with hk;omega)⟩;exact ownsRow_sortedI (List.length_mergeSort _) hg hh h1 h2 h3
structure OfP (ys:List Int) (k:Nat) (out:List (Int×Int)):Prop where
 right:RightF 1 out
 has:∀ n,hasB out n=true↔n∈ys.take k
 len:out.length≤k
 last:∀ (j:Nat) (h:j<ys.length),k=j+1→∃ d s,out=d++[(s,ys[j])]
theorem OfP.zero (ys:List Int):OfP ys 0 []:=⟨trivial,fun n=>by simp[hasB],Nat.zero_le _,fun j _ h=>by omega⟩
theorem OfP.first {ys:List Int} (h:0<ys.length) (hb:1≤ys[0]∧ys[0]≤1099511627776):OfP ys 1 [(ys[0],ys[0])]:=by
 refine⟨⟨hb.1,Int.le_refl _,hb.2,trivial⟩,fun n=>?_,by simp,fun j hj e=>?_⟩
 ·rw[List.take_one,List.head?_eq_getElem?,List.getElem?_eq_getElem h]
  simp[hasB];omega
 ·obtain rfl:j=0:=by omega
  exact⟨[],ys[0],rfl⟩
theorem OfP.push {ys _d:List Int} {out:List (Int×Int)} {j:Nat} (h:OfP ys (j+1) out) (hj:j+1<ys.length) (hle:ys[j]+1<ys[j+1]) (hb:ys[j+1]≤1099511627776):OfP ys (j+1+1) (out++[(ys[j+1],ys[j+1])]):=by
 obtain⟨d,s,hd⟩:=h.last j (by omega) rfl;have hr:=h.right;rw[hd]at hr;obtain⟨k1,k2,k3,k4,k5⟩:=hr.of_snoc;dsimp only at k2 k3 k4 k5;refine⟨h.right.snoc (fun q hq=>?_) (by show 1≤ys[j+1];omega) (Int.le_refl _) hb,fun n=>?_,by have:=h.len;simp;omega,fun i hi e=>?_⟩
 ·show q.2+2≤ys[j+1]
  rw[hd]at hq
  rcases List.mem_append.1 hq with hq | hq
  ·have:=k2 q hq;omega
  ·rw[List.mem_singleton.1 hq];show ys[j]+2≤_;omega
 ·rw[has_append,Bool.or_eq_true,h.has n,List.take_succ_eq_append_getElem hj,List.mem_append,has_cons,has_nil,Bool.or_false,List.mem_singleton,decide_eq_true_eq]
  dsimp only;constructor
  ·rintro (h | h)
   ·exact .inl h
   ·right;omega
  ·rintro (h | h)
   ·exact .inl h
   ·right;omega
 ·obtain rfl:i=j+1:=by omega
  exact⟨out,ys[j+1],rfl⟩
theorem OfP.grow {ys:List Int} {d:List (Int×Int)} {s:Int} {j:Nat} (hj:j+1<ys.length) (h:OfP ys (j+1) (d++[(s,ys[j])])) (hle:ys[j]≤ys[j+1]) (hle2:ys[j+1]≤ys[j]+1) (hb:ys[j+1]≤1099511627776):OfP ys (j+1+1) (d++[(s,ys[j+1])]):=by
 obtain⟨k1,k2,k3,k4,k5⟩:=h.right.of_snoc;dsimp only at k2 k3 k4 k5;refine⟨k1.snoc k2 k3 (by show s≤ys[j+1];omega) hb,fun n=>?_,by have:=h.len;simp at this ⊢;omega,fun i hi e=>?_⟩
 ·have h1:=h.has n
  rw[has_append,Bool.or_eq_true,has_cons,has_nil,Bool.or_false,decide_eq_true_eq]at h1;rw[has_append,Bool.or_eq_true,List.take_succ_eq_append_getElem hj,List.mem_append,← h1,has_cons,has_nil,Bool.or_false,List.mem_singleton,decide_eq_true_eq];dsimp only at h1 ⊢;constructor
  ·rintro (h | h)
   ·exact .inl (.inl h)
   ·rcases (by omega:n≤ys[j]∨n=ys[j+1])with h' | h'
    ·exact .inl (.inr ⟨h.1,h'⟩)
    ·exact .inr h'
  ·rintro ((h | h) | h)
   ·exact .inl h
   ·right;omega
   ·right;omega
 ·obtain rfl:i=j+1:=by omega
  exact⟨d,s,rfl⟩
def OfIs (ns:List Int) (w:World) (e:Ending) (w':World):Prop:=
 ((∀ x∈ns,1≤x∧x≤1099511627776)∧∃ l A c,e = .returned (.tuple #[.slice A l.length c,.int .i64 0])∧SetIs ns l∧l.length≤ns.length∧Own w' w.heap.size 166 2 A l.length c (runsC l)∧Below w.heap.size w w') ∨
 ((∃ x∈ns,x<1∨1099511627776<x)∧e = .returned (.tuple #[.slice none 0 0,.int .i64 1])∧Below w.heap.size w w')
set_option maxRecDepth 100000 in
set_option maxHeartbeats 4000000 in
theorem of_any (ns:List Int) (n:Nat) (A:Option Addr) (c:Nat) (w:World) (hl:ns.length=n) (hn:n≤100000) (hr:Rd w w.heap.size 1 A n c (intsC ns)) :
  Calls Tryz.prog 117 #[.slice A n c] w (OfIs ns w):=by
 have HC:=Lib.hid (clone_any ns n A c w hl (by omega) hr);have HL:=Lib.hid hl;clear hl hr;go_enter Tryz.func117,Tryz.ntmps117;go_wp2_with fail;refine HC.out.mono ?_;rintro e w1 ⟨A1,c1,rfl,ho1,hb1⟩;have HS:=Lib.hid (sort_own ns n A1 c1 w.heap.size w1 HL.out (by omega) ho1 hb1.size);have HB1:=Lib.hid hb1;clear ho1 hb1 HC;go_wp2_with fail;refine HS.out.mono ?_;rintro e w2 ⟨rfl,ho2,hb2⟩;have HB2:=Lib.hid (HB1.out.trans hb2);have HR:=Lib.hid ho2.rd;clear ho2 hb2 HS HB1;obtain⟨ys,hys⟩:∃ ys,ys=srt ns:=⟨_,rfl⟩
 have HLE:Hid (∀ (i j:Nat) (hi:i<j) (hj:j<ys.length),ys[i]≤ys[j]):=by
  subst hys;exact fun i j hi hj=>srt_le ns hi hj
 have HYL:Hid (ys.length=n):=by rw[hys];exact (srt_len ns).trans HL.out
 have HM:Hid (∀ x,x∈ys↔x∈ns):=by rw[hys];exact fun x=>srt_mem
 rw[← hys]at HR;clear hys;go_wp2
 go_loopw [5,14] (fun lv iv wr=>∃ (k q:Nat) (A':Option Addr) (c':Nat) (out:List (Int×Int)),k≤n∧lv = .slice A' q c'∧iv = .int .i64 k∧Hid (q=out.length)∧Hid (OfP ys k out)∧Hid (∀ x∈ys.take k,1≤x∧x≤1099511627776)∧Hid (Own wr w2.heap.size 166 2 A' q c' (runsC out))∧Hid (Below w2.heap.size w2 wr)) (fun _ iv _=>n-(intOf iv).toNat)
 case atStart=>exact⟨0,0,none,0,[],by omega,rfl,rfl,rfl,OfP.zero _,Lib.hid (by simp),⟨World.ownsRow_nil _ _ _ _,by simp[runsC]⟩,Below.refl _ _⟩
 case round=>
  obtain⟨k,q,A',c',out,hk,rfl,rfl,HQ,HI,HG,HO,HB⟩:=hrel
  by_cases hlt:k<n
  ·have hky:k<ys.length:=by rw[HYL.out];exact hlt
   obtain⟨b,o,rfl,hbl,hc⟩:=rd_int HR.out HYL.out hlt;have q0:=hc k hky;obtain⟨x,hx⟩:∃ x,x=ys[k]:=⟨_,rfl⟩;have HX:=Lib.hid hx;rw[← hx]at q0;have q0:=(HB.out.cell (p:=⟨b,o+k,none⟩) hbl).trans q0;have HBW:Hid (Below w.heap.size w wr):=HB2.out.trans (HB.out.mono HB2.out.size)
   by_cases h1:x<1
   ·have f1:decide (x<1)=true:=by simpa using h1
    have HE:Hid (∃ x∈ns,x<1∨1099511627776<x):=⟨x,(HM.out x).1 (by rw[hx];exact List.getElem_mem hky),.inl h1⟩;clear hc hx;go_wp2;go_ret2;exact .inr ⟨HE.out,rfl,HBW.out⟩
   ·have f1:decide (x<1)=false:=by simpa using h1
    by_cases h2:1099511627776<x
    ·have f2:decide (1099511627776<x)=true:=by simpa using h2
     have HE:Hid (∃ x∈ns,x<1∨1099511627776<x):=⟨x,(HM.out x).1 (by rw[hx];exact List.getElem_mem hky),.inr h2⟩;clear hc hx;go_wp2;go_ret2;exact .inr ⟨HE.out,rfl,HBW.out⟩
    ·have f2:decide (1099511627776<x)=false:=by simpa using h2
     have HG2:Hid (∀ x∈ys.take (k+1),1≤x∧x≤1099511627776):=fun y hy=>by
      rw[List.take_succ_eq_append_getElem hky]at hy
      rcases List.mem_append.1 hy with hy | hy
      ·exact HG.out y hy
      ·rw[List.mem_singleton.1 hy,← hx];omega
     have hlen:=HI.out.len
     rcases Nat.eq_zero_or_pos k with rfl | hk0
     ·have hout:out=[]:=List.eq_nil_of_length_eq_zero (by omega)
      subst hout;have hq:q=0:=HQ.out;subst hq
      have HY:Hid (OfP ys 1 ([]++[(x,x)])):=by
       unfold Hid;rw[HX.out];exact OfP.first hky (by rw[← hx];omega)
      simp only[Nat.add_zero]at q0;obtain⟨A2,c2,w3,hrun2,ho2',hb2'⟩:=push_run Tryz.underlying141 infoR wr w2.heap.size wr.heap.size rfl HB.out.size _ ([]:List (Int×Int)) HO.out.row x x (by omega);have Hrun2:=Lib.hid hrun2;have HO2:=Lib.hid ho2';have HB3:=Lib.hid (HB.out.trans hb2');obtain⟨q2,hq2⟩:∃ q2,q2=(([]:List (Int×Int))++[(x,x)]).length:=⟨_,rfl⟩;rw[← hq2]at Hrun2 HO2;have HQ2:=Lib.hid hq2;clear hrun2 ho2' hb2' hq2 hc hx hlen;go_wp2_with (at_builtin;refine Lib.wpList_append_run _ rfl _ _ _ _ rfl _ _ rfl rfl _ _ Hrun2.out ?_);go_roundw
      case rel=>exact⟨1,q2,A2,c2,([]:List (Int×Int))++[(x,x)],by omega,rfl,rfl,HQ2.out,HY.out,HG2.out,HO2.out,HB3.out⟩
      case measure=>simp[intOf];omega
     ·obtain⟨j,rfl⟩:∃ j,k=j+1:=⟨k-1,by omega⟩
      obtain⟨dd,s,hd⟩:=HI.out.last j (by omega) rfl;obtain⟨e0,he0⟩:∃ e,e=ys[j]:=⟨_,rfl⟩;have hord:=HLE.out j (j+1) (by omega) hky
      have hjy:j<ys.length:=by omega
      have he1:=HG.out e0 (by rw[he0,List.take_succ_eq_append_getElem hjy];exact List.mem_append_right _ List.mem_cons_self);rw[← he0]at hd hord;rw[← hx]at hord;subst hd;obtain⟨D,hD⟩:∃ D,D=dd.length:=⟨_,rfl⟩
      have hq:q=D+1:=by rw[hD];have:=HQ.out;simpa using this
      subst hq
      have hD2:D≤400000:=by rw[List.length_append,List.length_singleton]at hlen;omega
      obtain⟨g,rfl,hgb,hgl,hfz,hcell⟩:=Own.place HO.out (by omega);have hfz:=hfz (D*2+1)
      have hcl:wr.cell? ⟨g,D*2+1,none⟩=some (.int .i64 e0):=by
       have:=(runsC_at (dd++[(s,e0)]) D (by simp[hD])).2;rw[show (dd++[(s,e0)])[D]'(by simp[hD])=(s,e0) from by simp[hD]]at this;exact hcell _ _ this
      have eD:(dd++[(s,e0)]).length=D+1:=by simp[hD]
      by_cases he:e0+1<x
      ·have f5:decide (e0+1<x)=true:=by simpa using he
       have HY:Hid (OfP ys (j+1+1) ((dd++[(s,e0)])++[(x,x)])):=by
        unfold Hid;rw[HX.out];exact OfP.push (_d:=[]) HI.out hky (by rw[← hx,← he0];exact he) (by rw[← hx];omega)
       have hown:wr.ownsRow w2.heap.size 166 2 (.slice (some ⟨g,0,none⟩) (D+1) c') (dd++[(s,e0)]).length (runsC (dd++[(s,e0)])):=by rw[eD];exact HO.out.row
       obtain⟨A2,c2,w3,hrun2,ho2',hb2'⟩:=push_run Tryz.underlying141 infoR wr w2.heap.size wr.heap.size rfl HB.out.size _ (dd++[(s,e0)]) hown x x (by omega);have Hrun2:=Lib.hid hrun2;have HO2:=Lib.hid ho2';have HB3:=Lib.hid (HB.out.trans hb2');obtain⟨q2,hq2⟩:∃ q2,q2=((dd++[(s,e0)])++[(x,x)]).length:=⟨_,rfl⟩;rw[← hq2]at Hrun2 HO2;have HQ2:=Lib.hid hq2;clear hrun2 ho2' hb2' hq2 hcell hD eD hown hc hx he0 hlen he;go_wp2_with (at_builtin;refine Lib.wpList_append_run _ rfl _ _ _ _ rfl _ _ rfl rfl _ _ Hrun2.out ?_);go_roundw
       case rel=>exact⟨j+1+1,q2,A2,c2,(dd++[(s,e0)])++[(x,x)],by omega,rfl,by go_num,HQ2.out,HY.out,HG2.out,HO2.out,HB3.out⟩
       case measure=>simp[intOf];omega
      ·have f5:decide (e0+1<x)=false:=by simpa using he
       have HY:Hid (OfP ys (j+1+1) (dd++[(s,x)])):=by
        unfold Hid;rw[HX.out];refine OfP.grow hky (by rw[← he0];exact HI.out) (by rw[← hx,← he0];exact hord) (by rw[← hx,← he0];omega) (by rw[← hx];omega)
       have HO2:Hid (Own (wr.setCell ⟨g,D*2+1,none⟩ (.int .i64 x)) w2.heap.size 166 2 (some ⟨g,0,none⟩) (D+1) c' (runsC (dd++[(s,x)]))):=by
        rw[hD];exact own_close (by rw[← hD];exact HO.out)
       have HB3:Hid (Below w2.heap.size w2 (wr.setCell ⟨g,D*2+1,none⟩ (.int .i64 x))):=HB.out.setCell hgb _
       have HQ2:Hid (D+1=(dd++[(s,x)]).length):=by unfold Hid;rw[hD];simp
       clear hcell hD eD hc hx he0 hlen he;go_wp2;go_roundw
       case rel=>exact⟨j+1+1,D+1,_,c',dd++[(s,x)],by omega,rfl,by go_num,HQ2.out,HY.out,HG2.out,HO2.out,HB3.out⟩
       case measure=>simp[intOf];omega
  ·obtain rfl:k=n:=by omega
   have hI:=HI.out;have hG:=HG.out;have htk:ys.take k=ys:=List.take_of_length_le (by rw[HYL.out];omega);have HSET:Hid (SetIs ns out):=⟨hI.right,fun m=>by rw[hI.has m,htk];exact HM.out m⟩;have HGD:Hid (∀ x∈ns,1≤x∧x≤1099511627776):=fun x hx=>hG x (by rw[htk];exact (HM.out x).2 hx)
   have HLN:Hid (out.length≤ns.length):=by unfold Hid;rw[HL.out];exact hI.len
   have hq:=HQ.out;subst hq;clear hI hG htk;go_wp2;go_ret2;exact .inl ⟨HGD.out,out,_,_,rfl,HSET.out,HLN.out,HO.out.mono HB2.out.size,HB2.out.trans (HB.out.mono HB2.out.size)⟩
end Sp
end Go.Proofs.YtjpcechcefhcfaaGreat
