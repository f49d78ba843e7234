/- What is known: is a dot there. -/
import Derived.Test.YtgeafpaognhokaaGreatG00
import Derived.Test.YtgeafpaognhokaaGreatCtx1
set_option maxRecDepth 100000
set_option maxHeartbeats 4000000
namespace Go.Proofs.YtgeafpaognhokaaGreat
open Go.ChangeShapes Go.WideShapes Go.ChangeAt Go.RowKit
namespace Cs
open Tr Cx Sp Rw
def kS (s:S3):Int×Int:=(s.1,s.2.2)
theorem right_tail {s:S3} {c:List S3} (h:RightC (s::c)):RightC c:=by
 refine⟨h.rise.2.2.mono h.rise.1,fun d hd=>?_⟩;have h1:=h.part d hd;rw[part_cons]at h1
 split at h1
 ·obtain⟨g1,g2,_,g4⟩:=h1
  exact g4.mono (by omega)
 ·exact h1
def apS (s t:S3):Prop:=s.1<t.1∨(s.1=t.1∧s.2.2<t.2.1)
theorem ok_span {l:List S3} (h:RightC l):∀ s∈l,s.2.1≤s.2.2:=fun s hs=>by
 have h1:=h.rise.mem s hs;have:=(h.part s.1 h1).mem s.2 (part_mem.2 hs);omega
theorem ap_ctx:∀ {l:List S3},RightC l→l.Pairwise apS
 | [],_=>List.Pairwise.nil
 | s::c,h=>by
  refine List.pairwise_cons.2 ⟨fun t ht=>?_,ap_ctx (right_tail h)⟩;have h1:=h.rise.2.2.mem t ht;have h2:=h.rise.1;have h3:=h.rise.2.1;unfold apS
  by_cases e:s.1=t.1
  ·refine .inr ⟨e,?_⟩
   have h4:=h.part s.1 ⟨h2,h3⟩;rw[part_cons,if_pos rfl]at h4;obtain⟨g1,g2,_,g4⟩:=h4;have:=g4.mem t.2 (part_mem.2 (by rw[e];exact ht));omega
  ·exact .inl (by omega)
theorem rise_ctx {l:List S3} (h:RightC l):l.Pairwise fun s t=>ltD (kS s) (kS t):=by
 refine (List.Pairwise.and_mem.1 (ap_ctx h)).imp fun h1=>?_;obtain⟨_,h3,h4⟩:=h1;have h5:=ok_span h _ h3;unfold ltD kS;unfold apS at h4;dsimp only;omega
theorem hasC_iff {l:List S3} {d n:Int} : hasC l d n=true↔∃ s∈l,s.1=d∧s.2.1≤n∧n≤s.2.2:=by
 unfold hasC;rw[has_true];constructor
 ·rintro⟨r,hr,h1,h2⟩
  exact⟨(d,r),part_mem.1 hr,rfl,h1,h2⟩
 ·rintro⟨s,hs,rfl,h1,h2⟩
  exact⟨s.2,part_mem.2 hs,h1,h2⟩
structure SrD (l:List S3) (x:Int×Int) (lo hi:Nat):Prop where
 low:∀ (i:Nat) (h:i<l.length),i<lo→ltD (kS l[i]) x
 high:∀ (i:Nat) (h:i<l.length),hi≤i→¬ltD (kS l[i]) x
theorem SrD.start (l:List S3) (x:Int×Int) {n:Nat} (h:l.length=n):SrD l x 0 n:=⟨fun _ _ h=>absurd h (Nat.not_lt_zero _),fun i hi hn=>by omega⟩
theorem SrD.up {l:List S3} {x:Int×Int} {lo hi m:Nat} (h:SrD l x lo hi) (hs:l.Pairwise fun s t=>ltD (kS s) (kS t)) (hm:m<l.length) (h1:ltD (kS l[m]) x):SrD l x (m+1) hi:=
 ⟨fun i hi hlt=>by
  by_cases he:i=m
  ·subst he;exact h1
  ·exact tot_dot.tr _ _ _ (List.pairwise_iff_getElem.1 hs i m hi hm (by omega)) h1,h.high⟩
theorem SrD.down {l:List S3} {x:Int×Int} {lo hi m:Nat} (h:SrD l x lo hi) (hs:l.Pairwise fun s t=>ltD (kS s) (kS t)) (hm:m<l.length) (h1:¬ltD (kS l[m]) x):SrD l x lo m:=
 ⟨h.low,fun i hi hlt=>by
  by_cases he:i=m
  ·subst he;exact h1
  ·exact fun h2=>h1 (tot_dot.tr _ _ _ (List.pairwise_iff_getElem.1 hs m i hm hi (by omega)) h2)⟩
theorem SrD.has {l:List S3} {d n:Int} {i:Nat} (h:SrD l (d,n) i i) (hr:RightC l):hasC l d n=true↔∃ hi:i<l.length,(l[i]).1=d∧(l[i]).2.1≤n:=by
 rw[hasC_iff];constructor
 ·rintro⟨s,hs,h1,h2,h3⟩
  obtain⟨j,hj,rfl⟩:=List.getElem_of_mem hs
  have hij:i≤j:=by
   rcases Nat.lt_or_ge j i with h4 | h4
   ·have h5:=h.low j hj h4
    unfold ltD kS at h5;dsimp only at h5;omega
   ·exact h4
  have hi:i<l.length:=by omega
  have h6:=h.high i hi (Nat.le_refl _);unfold ltD kS at h6;dsimp only at h6
  by_cases e:i=j
  ·subst e
   exact⟨hi,h1,h2⟩
  ·have h7:=List.pairwise_iff_getElem.1 (ap_ctx hr) i j hi hj (by omega)
   unfold apS at h7;omega
 ·rintro⟨hi,h1,h2⟩
  have h3:=h.high i hi (Nat.le_refl _);unfold ltD kS at h3;dsimp only at h3;exact⟨l[i],List.getElem_mem hi,h1,h2,by omega⟩
theorem cmp_dot {a n b m:Int} : Dt.cmpI a n b m<0↔ltD (a,n) (b,m):=by
 unfold Dt.cmpI ltD;dsimp only
 by_cases h1:a<b∨(a=b∧n<m)
 ·rw[if_pos h1];simp[h1]
 ·rw[if_neg h1]
  by_cases h2:a=b∧n=m
  ·rw[if_pos h2];simp[h1]
  ·rw[if_neg h2];simp[h1]
theorem hascmp_any (a f t d n:Int) (w:World):Calls Tryz.prog 215 #[.agg #[.int .i64 a,.int .i64 f,.int .i64 t],.agg #[.int .i64 d,.int .i64 n]] w fun e w'=>e = .returned (.int .i64 (Dt.cmpI a t d n))∧Below w.heap.size w w':=by
 have hb:=Lib.hid (Dt.box2_below w #[.int .i64 a,.int .i64 f,.int .i64 t] #[.int .i64 d,.int .i64 n] 117 37);go_enter Tryz.func215,Tryz.ntmps215;go_wp2_with (go_at_call 134;refine (Dt.compare_any _ _ _ _ _).mono ?_;rintro e w' ⟨rfl,hb2⟩;have HB2:=Lib.hid hb2;clear hb2);go_ret;exact⟨rfl,hb.out.trans (HB2.out.mono hb.out.size)⟩
theorem searchD_any (l:List S3) (nn:Nat) (A:Option Addr) (cc:Nat) (d n:Int) (w:World) (hl:l.length=nn) (hn:nn≤1000000) (hr:Rd w w.heap.size 3 A nn cc (spsC l)) (hs:RightC l) :
  Calls Tryz.prog 214 #[.slice A nn cc,.agg #[.int .i64 d,.int .i64 n],.func (.func 215) #[] #[]] w fun e w'=>∃ (i:Nat) (f:Bool),e = .returned (.tuple #[.int .i64 i,.bool f])∧i≤nn∧SrD l (d,n) i i∧Below w.heap.size w w':=by
 have HL:=Lib.hid hl;have HS0:Hid (SrD l (d,n) 0 nn):=SrD.start _ _ hl;have HR:=Lib.hid hr;have HSS:=Lib.hid (rise_ctx hs);clear hr hs hl;obtain⟨q,hq⟩:∃ q,q=w.heap.size:=⟨_,rfl⟩;obtain⟨W0,hW0⟩:∃ W,W=w.alloc (.cells #[.int .i64 d,.int .i64 n] 37):=⟨_,rfl⟩
 have q0:W0.cell? ⟨q,0,none⟩=some (.int .i64 d):=by rw[hW0,hq];go_simp
 have q1:W0.cell? ⟨q,1,none⟩=some (.int .i64 n):=by rw[hW0,hq];go_simp
 have HK0:=Lib.hid (((Kept.nil_of (show Below w.heap.size w W0 by rw[hW0];exact Dt.box_below _ _ _)).cons_of q1).cons_of q0);have HQ:=Lib.hid hq;have HW0:=Lib.hid hW0;clear hq hW0 q0 q1;go_enter Tryz.func214,Tryz.ntmps214;go_wp2_with fail;rw[← HQ.out,← HW0.out]
 go_loopw [9,10] (fun a b wr=>∃ lo hi:Nat,a = .int .i64 lo∧b = .int .i64 hi∧lo≤hi∧hi≤nn∧Hid (SrD l (d,n) lo hi)∧Hid (Kept [(⟨q,0,none⟩,.int .i64 d),(⟨q,1,none⟩,.int .i64 n)] w wr)) (fun a b _=>(intOf b).toNat-(intOf a).toNat)
 case atStart=>exact⟨0,nn,rfl,rfl,Nat.zero_le _,Nat.le_refl _,HS0.out,HK0.out⟩
 case round=>
  obtain⟨lo,hi,rfl,rfl,hlh,hin,HS,HKW⟩:=hrel
  by_cases hlt:lo<hi
  ·obtain⟨m,hm⟩:∃ m,m=(lo+hi) / 2:=⟨_,rfl⟩
   have hmm:((lo:Int)+(hi:Int)) / 2=(m:Int):=by omega
   have hm1:m<nn:=by omega
   have hm2:lo≤m:=by omega
   have hm3:m<hi:=by omega
   clear hm;obtain⟨b,o,rfl,hbb,hc⟩:=rd_span HR.out (m:=m) (by omega)
   have hml:m<l.length:=by rw[HL.out];omega
   obtain⟨c0,c1,c2⟩:=hc _ hml;obtain⟨s,hs⟩:∃ s,s=l[m]:=⟨_,rfl⟩;rw[← hs]at c0 c1 c2;obtain⟨sa,sf,sv⟩:=s;dsimp only at c0 c1 c2;have hbw:=HKW.out.below;have c0:=(hbw.cell (p:=⟨b,o+m*3,none⟩) hbb).trans c0;have c1:=(hbw.cell (p:=⟨b,o+m*3+1,none⟩) hbb).trans c1;have c2:=(hbw.cell (p:=⟨b,o+m*3+2,none⟩) hbb).trans c2;have t0:=HKW.out.c0;have t1:=HKW.out.c1;have HKc:=Lib.hid ((((HKW.out.cons_of c2).cons_of c1).cons_of c0).drew);have HS9:=Lib.hid hs;clear hc hs hbw;obtain⟨c,hc⟩:∃ c,Dt.cmpI sa sv d n=c:=⟨_,rfl⟩;have HC:=Lib.hid hc
   have HLT:Hid (ltD (kS l[m]) (d,n)↔c<0):=by unfold Hid;rw[← HS9.out,← hc];exact cmp_dot.symm
   clear hc
   by_cases hlt2:c<0
   ·have f1:decide (c<0)=true:=decide_eq_true hlt2
    have HS2:=Lib.hid (HS.out.up HSS.out hml (HLT.out.2 hlt2));go_wp2_with fail;refine wp_region_held_drew (S:=fun W=>W.cell? ⟨b,o+m*3,none⟩=some (.int .i64 sa)∧W.cell? ⟨b,o+m*3+1,none⟩=some (.int .i64 sf)∧W.cell? ⟨b,o+m*3+2,none⟩=some (.int .i64 sv)∧W.cell? ⟨q,0,none⟩=some (.int .i64 d)∧W.cell? ⟨q,1,none⟩=some (.int .i64 n)) (by kernel_rfl) (by go_keep) (fun hHeld=>?_);refine Tk 0 24 ?_;refine Tk 1 25 ?_;refine Tk 2 26 ?_;refine Tk 3 27 ?_;refine Tk 4 28 ?_;refine Tk 5 29 ?_;refine Tc 6 (fun K hK=>?_);go_simp;(go_at_call 215;refine (hascmp_any _ _ _ _ _ _).mono ?_);rw[HC.out];rintro e v1 ⟨rfl,hb9⟩;have HKc:=Lib.hid (HKc.out.later hb9);clear hb9;clear hHeld;refine Th hK ?_ (fun hHeld=>?_)
    ·exact⟨HKc.out.c0,HKc.out.c1,HKc.out.c2,HKc.out.c3,HKc.out.c4⟩
    clear hK K;refine Tk 7 31 ?_;refine wpAnyH_done (by kernel_rfl) ?_ _;clear hHeld;go_wp2_with fail;go_roundw
    case rel=>exact⟨m+1,hi,by go_num,rfl,by omega,hin,HS2.out,HKc.out.tail.tail.tail⟩
    case measure=>simp[intOf];omega
   ·have f1:decide (c<0)=false:=decide_eq_false hlt2
    have HS2:=Lib.hid (HS.out.down HSS.out hml (fun h=>hlt2 (HLT.out.1 h)));go_wp2_with fail;refine wp_region_held_drew (S:=fun W=>W.cell? ⟨b,o+m*3,none⟩=some (.int .i64 sa)∧W.cell? ⟨b,o+m*3+1,none⟩=some (.int .i64 sf)∧W.cell? ⟨b,o+m*3+2,none⟩=some (.int .i64 sv)∧W.cell? ⟨q,0,none⟩=some (.int .i64 d)∧W.cell? ⟨q,1,none⟩=some (.int .i64 n)) (by kernel_rfl) (by go_keep) (fun hHeld=>?_);refine Tk 0 24 ?_;refine Tk 1 25 ?_;refine Tk 2 26 ?_;refine Tk 3 27 ?_;refine Tk 4 28 ?_;refine Tk 5 29 ?_;refine Tc 6 (fun K hK=>?_);go_simp;(go_at_call 215;refine (hascmp_any _ _ _ _ _ _).mono ?_);rw[HC.out];rintro e v1 ⟨rfl,hb9⟩;have HKc:=Lib.hid (HKc.out.later hb9);clear hb9;clear hHeld;refine Th hK ?_ (fun hHeld=>?_)
    ·exact⟨HKc.out.c0,HKc.out.c1,HKc.out.c2,HKc.out.c3,HKc.out.c4⟩
    clear hK K;refine Tk 7 31 ?_;refine wpAnyH_done (by kernel_rfl) ?_ _;clear hHeld;go_wp2_with fail;go_roundw
    case rel=>exact⟨lo,m,rfl,rfl,by omega,by omega,HS2.out,HKc.out.tail.tail.tail⟩
    case measure=>simp[intOf];omega
  ·obtain rfl:hi=lo:=by omega
   by_cases hn:hi<nn
   ·have f1:decide ((hi:Int)<(nn:Int))=true:=decide_eq_true (by omega)
    obtain⟨b,o,rfl,hbb,hc⟩:=rd_span HR.out (m:=hi) (by omega)
    have hml:hi<l.length:=by rw[HL.out];omega
    obtain⟨c0,c1,c2⟩:=hc _ hml;obtain⟨s,hs⟩:∃ s,s=l[hi]:=⟨_,rfl⟩;rw[← hs]at c0 c1 c2;obtain⟨sa,sf,sv⟩:=s;dsimp only at c0 c1 c2;have hbw:=HKW.out.below;have c0:=(hbw.cell (p:=⟨b,o+hi*3,none⟩) hbb).trans c0;have c1:=(hbw.cell (p:=⟨b,o+hi*3+1,none⟩) hbb).trans c1;have c2:=(hbw.cell (p:=⟨b,o+hi*3+2,none⟩) hbb).trans c2;have t0:=HKW.out.c0;have t1:=HKW.out.c1;have HKc:=Lib.hid ((((HKW.out.cons_of c2).cons_of c1).cons_of c0).drew);have HS9:=Lib.hid hs;clear hc hs hbw;obtain⟨c,hc⟩:∃ c,Dt.cmpI sa sv d n=c:=⟨_,rfl⟩;have HC:=Lib.hid hc;clear hc;go_wp2_with fail;refine wp_region_held_drew (S:=fun W=>W.cell? ⟨b,o+hi*3,none⟩=some (.int .i64 sa)∧W.cell? ⟨b,o+hi*3+1,none⟩=some (.int .i64 sf)∧W.cell? ⟨b,o+hi*3+2,none⟩=some (.int .i64 sv)∧W.cell? ⟨q,0,none⟩=some (.int .i64 d)∧W.cell? ⟨q,1,none⟩=some (.int .i64 n)) (by kernel_rfl) (by go_keep) (fun hHeld=>?_)
    refine Tk 0 35 ?_;refine Tk 1 36 ?_;refine Tk 2 37 ?_;refine Tk 3 38 ?_;refine Tk 4 39 ?_;refine Tk 5 40 ?_;refine Tk 6 41 ?_;refine Tk 7 42 ?_;refine Tk 8 43 ?_;refine Tk 9 44 ?_;refine Tk 10 45 ?_;refine Tc 11 (fun K hK=>?_);go_simp;(go_at_call 215;refine (hascmp_any _ _ _ _ _ _).mono ?_);rw[HC.out];rintro e v1 ⟨rfl,hb9⟩;have HKc:=Lib.hid (HKc.out.later hb9);clear hb9;clear hHeld;refine Th hK ?_ (fun hHeld=>?_)
    ·exact⟨HKc.out.c0,HKc.out.c1,HKc.out.c2,HKc.out.c3,HKc.out.c4⟩
    clear hK K;refine Tk 12 47 ?_;refine Tk 13 48 ?_;refine Tk 14 6 ?_;refine Tk 15 7 ?_;refine wpAnyH_done (by kernel_rfl) ?_ _;clear hHeld;go_wp2_with fail;go_ret2;exact⟨hi,(c==0),by simp,hin,HS.out,HKc.out.below⟩
   ·have f1:decide ((hi:Int)<(nn:Int))=false:=decide_eq_false (by omega)
    have HB9:Hid (Below w.heap.size w wr.drew):=HKW.out.drew.below;go_wp2_with fail;refine wp_region_held_drew (S:=fun _=>True) (by kernel_rfl) (by trivial) (fun hHeld=>?_);refine Tk 0 35 ?_;refine Tk 1 36 ?_;refine Tk 2 37 ?_;refine Tk 3 38 ?_;refine Tk 4 39 ?_;refine Tn 5 40 ?_;refine Tn 6 41 ?_;refine Tn 7 42 ?_;refine Tn 8 43 ?_;refine Tn 9 44 ?_;refine Tn 10 45 ?_;refine Tn 11 46 ?_;refine Tn 12 47 ?_;refine Tk 13 48 ?_;refine Tk 14 6 ?_;refine Tk 15 7 ?_;refine wpAnyH_done (by kernel_rfl) ?_ _;clear hHeld;go_wp2_with fail;go_ret2;exact⟨hi,false,by simp,hin,HS.out,HB9.out⟩
theorem has_any (l:List S3) (nn:Nat) (A:Option Addr) (cc:Nat) (d n:Int) (w:World) (hl:l.length=nn) (hn:nn≤1000000) (hr:Rd w w.heap.size 3 A nn cc (spsC l)) (hs:RightC l) :
  Calls Tryz.prog 181 #[.slice A nn cc,.agg #[.int .i64 d,.int .i64 n]] w fun e w'=>e = .returned (.bool (hasC l d n))∧Below w.heap.size w w':=by
 obtain⟨z,hz⟩:∃ z,hasC l d n=z:=⟨_,rfl⟩;rw[hz];have HZ:=Lib.hid hz;have HL:=Lib.hid hl;have HR:=Lib.hid hr;have HSS:=Lib.hid hs;clear hr hs hl hz;obtain⟨p,hp⟩:∃ p,p=w.heap.size:=⟨_,rfl⟩;obtain⟨W0,hW0⟩:∃ W,W=w.alloc (.cells #[.int .i64 d,.int .i64 n] 37):=⟨_,rfl⟩
 have p0:W0.cell? ⟨p,0,none⟩=some (.int .i64 d):=by rw[hW0,hp];go_simp
 have p1:W0.cell? ⟨p,1,none⟩=some (.int .i64 n):=by rw[hW0,hp];go_simp
 have hb0:Below w.heap.size w W0:=by rw[hW0];exact Dt.box_below _ _ _
 have HK0:=Lib.hid (((Kept.nil_of hb0).cons_of p1).cons_of p0);have HSR:=Lib.hid (searchD_any l nn A cc d n W0 HL.out hn ((HR.out.below hb0).more hb0.size) HSS.out);have HP:=Lib.hid hp;have HW0:=Lib.hid hW0;clear hp hW0 hb0;go_enter Tryz.func181,Tryz.ntmps181;go_wp2_with fail;rw[← HP.out,← HW0.out];refine HSR.out.mono ?_;rintro e w2 ⟨i,f,rfl,hin,hsr,hb2⟩;have HKW:=Lib.hid (HK0.out.later hb2);have HSF:=Lib.hid hsr;have t0:=HKW.out.c0;have t1:=HKW.out.c1;clear hsr hb2 p0 p1
 by_cases hlt:i<nn
 ·obtain⟨b,o,rfl,hbb,hc⟩:=rd_span HR.out (m:=i) (by omega)
  have hml:i<l.length:=by rw[HL.out];omega
  obtain⟨c0,c1,_⟩:=hc _ hml;have hbw:=HKW.out.below;have c0:=(hbw.cell (p:=⟨b,o+i*3,none⟩) hbb).trans c0;have c1:=(hbw.cell (p:=⟨b,o+i*3+1,none⟩) hbb).trans c1
  have hI:hasC l d n=true↔(l[i]).1=d∧(l[i]).2.1≤n:=by
   rw[HSF.out.has HSS.out];exact⟨fun h=>h.2,fun h=>⟨hml,h⟩⟩
  rw[HZ.out]at hI;obtain⟨s,hs⟩:∃ s,s=l[i]:=⟨_,rfl⟩;rw[← hs]at c0 c1 hI;obtain⟨sa,sf,sv⟩:=s;dsimp only at c0 c1 hI;clear hc hs hbw;have f0:decide ((i:Int)<(nn:Int))=true:=decide_eq_true (by omega)
  by_cases hd:sa=d
  ·have hz3:z=decide (sf≤n):=by
    cases z with
    | true=>exact (decide_eq_true (hI.1 rfl).2).symm
    | false=>
     symm
     apply decide_eq_false
     intro h
     cases hI.2 ⟨hd,h⟩
   have HZ3:=Lib.hid hz3
   have f1:(sa==d)=true:=by rw[beq_iff_eq];exact hd
   clear hI hz3 hd;go_wp2_with fail;refine wp_region_held_drew (S:=fun W=>W.cell? ⟨b,o+i*3,none⟩=some (.int .i64 sa)∧W.cell? ⟨b,o+i*3+1,none⟩=some (.int .i64 sf)∧W.cell? ⟨p,0,none⟩=some (.int .i64 d)∧W.cell? ⟨p,1,none⟩=some (.int .i64 n)) (by kernel_rfl) (by go_keep) (fun hHeld=>?_);refine Tk 0 13 ?_;refine Tk 1 14 ?_;refine Tk 2 15 ?_;refine Tk 3 16 ?_;refine Tk 4 17 ?_;refine Tk 5 18 ?_;refine Tk 6 19 ?_;refine Tk 7 20 ?_;refine Tk 8 21 ?_;refine Tk 9 22 ?_;refine Tk 10 23 ?_;refine Tk 11 24 ?_;refine Tk 12 25 ?_;refine Tk 13 26 ?_;refine Tk 14 27 ?_;refine Tk 15 28 ?_;refine Tk 16 29 ?_;refine Tk 17 30 ?_;refine Tk 18 31 ?_;refine Tk 19 32 ?_;refine Tk 20 33 ?_;refine Tk 21 34 ?_;refine Tk 22 35 ?_;refine Tk 23 36 ?_;refine Tk 24 4 ?_;refine wpAnyH_done (by kernel_rfl) ?_ _;clear hHeld;go_wp2_with fail;go_ret;exact⟨by rw[HZ3.out];rfl,HKW.out.drew.below⟩
  ·have hz3:z=false:=by
    cases z with
    | true=>exact absurd (hI.1 rfl).1 hd
    | false=>rfl
   have HZ3:=Lib.hid hz3
   have f1:(sa==d)=false:=by rw[beq_eq_false_iff_ne];exact hd
   clear hI hz3 hd;go_wp2_with fail;refine wp_region_held_drew (S:=fun W=>W.cell? ⟨b,o+i*3,none⟩=some (.int .i64 sa)∧W.cell? ⟨b,o+i*3+1,none⟩=some (.int .i64 sf)∧W.cell? ⟨p,0,none⟩=some (.int .i64 d)∧W.cell? ⟨p,1,none⟩=some (.int .i64 n)) (by kernel_rfl) (by go_keep) (fun hHeld=>?_);refine Tk 0 13 ?_;refine Tk 1 14 ?_;refine Tk 2 15 ?_;refine Tk 3 16 ?_;refine Tk 4 17 ?_;refine Tk 5 18 ?_;refine Tk 6 19 ?_;refine Tk 7 20 ?_;refine Tk 8 21 ?_;refine Tk 9 22 ?_;refine Tk 10 23 ?_;refine Tk 11 24 ?_;refine Tk 12 25 ?_;refine Tk 13 26 ?_;refine Tk 14 27 ?_;refine Tn 15 28 ?_;refine Tn 16 29 ?_;refine Tn 17 30 ?_;refine Tn 18 31 ?_;refine Tn 19 32 ?_;refine Tn 20 33 ?_;refine Tn 21 34 ?_;refine Tn 22 35 ?_;refine Tk 23 36 ?_;refine Tk 24 4 ?_;refine wpAnyH_done (by kernel_rfl) ?_ _;clear hHeld;go_wp2_with fail;go_ret;exact⟨by rw[HZ3.out];rfl,HKW.out.drew.below⟩
 ·have hz3:z=false:=by
   cases z with
   | false=>rfl
   | true=>
    obtain⟨h,_⟩:=(HSF.out.has HSS.out).1 HZ.out;have:=HL.out;omega
  have HZ3:=Lib.hid hz3;have f0:decide ((i:Int)<(nn:Int))=false:=decide_eq_false (by omega);clear hz3;go_wp2_with fail;refine wp_region_held_drew (S:=fun _=>True) (by kernel_rfl) (by trivial) (fun hHeld=>?_);refine Tk 0 13 ?_;refine Tk 1 14 ?_;refine Tk 2 15 ?_;refine Tk 3 16 ?_;refine Tk 4 17 ?_;refine Tn 5 18 ?_;refine Tn 6 19 ?_;refine Tn 7 20 ?_;refine Tn 8 21 ?_;refine Tn 9 22 ?_;refine Tn 10 23 ?_;refine Tn 11 24 ?_;refine Tn 12 25 ?_;refine Tk 13 26 ?_;refine Tk 14 27 ?_;refine Tn 15 28 ?_;refine Tn 16 29 ?_;refine Tn 17 30 ?_;refine Tn 18 31 ?_;refine Tn 19 32 ?_;refine Tn 20 33 ?_;refine Tn 21 34 ?_;refine Tn 22 35 ?_;refine Tk 23 36 ?_;refine Tk 24 4 ?_;refine wpAnyH_done (by kernel_rfl) ?_ _;clear hHeld;go_wp2_with fail;go_ret;exact⟨by rw[HZ3.out];rfl,HKW.out.drew.below⟩
end Cs
end Go.Proofs.YtgeafpaognhokaaGreat
