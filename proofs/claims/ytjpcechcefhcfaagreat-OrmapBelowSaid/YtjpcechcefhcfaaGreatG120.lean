/- Texts of the lower layers, and of layer 9, put together. -/
import Derived.Test.YtjpcechcefhcfaaGreatG90
import Derived.Test.YtjpcechcefhcfaaGreatCauKit
import Derived.Test.YtjpcechcefhcfaaGreatG20
import Derived.Test.YtjpcechcefhcfaaGreatG40
import Derived.Test.YtjpcechcefhcfaaGreatG00
namespace Go.Proofs.YtjpcechcefhcfaaGreat
open Go.ChangeShapes Go.WideShapes Go.ChangeAt Go.RowKit
namespace Cs
open Tr Cx Sp Rw Classical
theorem boxTD (w:World) (Ae Ak:Option Addr) (ne nk ce ck:Nat) (a n:Int):∃ (W:World) (p q:Nat),Hid (W=(w.alloc (.cells #[.slice Ae ne ce,.slice Ak nk ck] 25)).alloc (.cells #[.int .i64 a,.int .i64 n] 47))∧Hid (p=w.heap.size)∧Hid (q=p+1)∧Hid (Kept [(⟨p,0,none⟩,.slice Ae ne ce),(⟨p,1,none⟩,.slice Ak nk ck),(⟨q,0,none⟩,.int .i64 a),(⟨q,1,none⟩,.int .i64 n)] w W):=by
 refine⟨_,_,_,rfl,rfl,rfl,?_⟩;have h0:=Kept.nil_of (show Below w.heap.size w ((w.alloc (.cells #[.slice Ae ne ce,.slice Ak nk ck] 25)).alloc (.cells #[.int .i64 a,.int .i64 n] 47)) from ((Below.refl _ _).alloc (Nat.le_refl _) _).alloc (by simp) _)
 refine (((h0.cons_of ?_).cons_of ?_).cons_of ?_).cons_of ?_ <;> go_simp
theorem rd_dot1 (w:World) (a n:Int) (ty:TypeId):Rd (w.alloc (.cells #[.int .i64 a,.int .i64 n] ty)) (w.heap.size+1) 2 (some ⟨w.heap.size,0,none⟩) 1 1 ([(a,n)].flatMap dotC):=
 ⟨rfl,Nat.le_refl _,fun u hu=>dotC_one (a,n) u (by simpa using hu),fun _=>⟨_,_,rfl,by omega,fun j u hu=>by
  rw[Nat.zero_add,cell_of_row _ _ j _ _ (0,0) (heap_alloc_new _ _)]
  simpa [dotC] using hu⟩⟩
theorem has_cb {u:List S3} {a n:Int} (hd:Dt.rightB a n=true) (hu:RightC u):hasCB u a n=hasC u a n:=by
 unfold hasCB;rw[hd,show rightCB u=true from decide_eq_true hu];rfl
def DotsIs (t:T) (a n:Int) (w:World) (e:Ending) (w':World):Prop:=∃ (v:List S3) (z:Int) (q c:Nat) (A:Option Addr),e = .returned (.tuple #[.slice A q c,.int .i64 z])∧Hid (v.length=q∧RO w' (fun b=>w.heap.size≤b) 3 A q c (spsC v))∧Hid ((checkB t a n=true→z=0∧∃ u,OfC (dl t) u∧PutC uniF u (oneC a n) v∧q≤4*nodes t+4)∧(checkB t a n=false→z=1∧v=[]))∧Below w.heap.size w w'
theorem dots_none {t:T} {a n:Int} {w w':World} (h:checkB t a n=false) (hb:Below w.heap.size w w'):DotsIs t a n w (.returned (.tuple #[.slice none 0 0,.int .i64 1])) w':=⟨[],1,0,0,none,rfl,Lib.hid (And.intro rfl (RO.nil _ _ _ _ _)),Lib.hid (And.intro (fun h2=>by rw[h]at h2;cases h2) (fun _=>⟨rfl,rfl⟩)),hb⟩
set_option maxRecDepth 100000 in
set_option maxHeartbeats 4000000 in
theorem fdots_any (t:T) (Ae Ak:Option Addr) (ne nk ce ck:Nat) (a n:Int) (w:World) (hl:LenT reachBytes t) (hn:nodes t≤1000) (hr:RdT w w.heap.size t ⟨Ae,ne,ce⟩ ⟨Ak,nk,ck⟩) :
  Calls Tryz.prog 102 #[.agg #[.slice Ae ne ce,.slice Ak nk ck],.agg #[.int .i64 a,.int .i64 n]] w (DotsIs t a n w):=by
 obtain⟨W,p,q,HW,HP,HQ,HKc⟩:=boxTD w Ae Ak ne nk ce ck a n;have HR:=Lib.hid (RdT.more HKc.out.below.size _ (RdT.below hr HKc.out.below));have HL:=Lib.hid hl;have HN:=Lib.hid hn;clear hr hl hn;have c0:=HKc.out.c0;have c1:=HKc.out.c1;go_enter Tryz.func102,Tryz.ntmps102;go_wp2_with fail;rw[← HP.out,← HW.out]
 try rw[← HQ.out]
 cases ht:Tr.rightB 5 t with
 | false=>
  have HCB:Hid (checkB t a n=false):=by unfold Hid checkB;rw[ht];rfl
  refine (dotsT_bad t Ae Ak ne nk ce ck W ht HL.out HR.out).mono ?_;rintro e v1 ⟨rfl,hb9⟩;have HKc:=Lib.hid (HKc.out.later hb9);clear hb9 c0 c1;go_wp2_with fail;go_ret2;exact dots_none HCB.out HKc.out.below
 | true=>
  have HT:=Lib.hid ht;refine (dotsT_any t Ae Ak ne nk ce ck W ht HL.out HN.out HR.out).mono ?_;rintro e v1 ⟨u,m,B,d,rfl,hu1,hu2,hm,hru,hb9⟩;have HKc:=Lib.hid (HKc.out.later hb9);have HU:=Lib.hid (And.intro hu1.out (And.intro hu2.out hm));obtain⟨g,hg⟩:∃ g,g=v1.heap.size:=⟨_,rfl⟩;obtain⟨v2,hv2⟩:∃ W,W=v1.alloc (.cells #[.int .i64 a,.int .i64 n] 47):=⟨_,rfl⟩
  have hb2:Below v1.heap.size v1 v2:=by rw[hv2];exact Dt.box_below _ _ _
  have HRU:=Lib.hid (hru.out.later hb2);have h1:=rd_dot1 v1 a n 47;rw[← hv2,← hg]at h1;have HOF:=Lib.hid (ofC_any [(a,n)] 1 (some ⟨g,0,none⟩) 1 v2 rfl (by omega) (h1.more (by rw[hv2];simp;omega)));have HKd:=Lib.hid (HKc.out.later hb2);have Hg:=Lib.hid hg;have Hv2:=Lib.hid hv2;clear hb9 c0 c1 hu1 hu2 hm hru hb2 h1 hg hv2 ht;have c2:=HKc.out.c2;have c3:=HKc.out.c3;go_wp2_with fail;rw[← Hg.out,← Hv2.out];refine HOF.out.mono ?_;clear c2 c3;rintro e v3 (⟨hgood,o,mo,Ao,co,rfl,ho1,ho2,hmo,hro,hb3⟩ | ⟨hno,rfl,hb3⟩)
  ·have hd:Dt.rightB a n=true:=hgood (a,n) (by simp)
   obtain rfl:o=oneC a n:=ho2.out.eq (of_oneC hd);have HKc:=Lib.hid (HKd.out.later hb3);have HRU:=Lib.hid (HRU.out.later hb3);have HO:=Lib.hid (And.intro ho1.out (And.intro hro.out hmo));have HD:=Lib.hid hd;obtain⟨z,hz⟩:∃ z,hasC u a n=z:=⟨_,rfl⟩
   have hcb:hasCB u a n=z:=by rw[has_cb hd HU.out.2.1.right];exact hz
   have HZ:=Lib.hid hz;have HH:=Lib.hid (hasC_any u m B d a n v3 HU.out.1 (by have:=HU.out.2.2;have:=HN.out;omega) HRU.out z hcb);clear hgood ho1 ho2 hmo hro hb3 hz hcb hd;have c2:=HKc.out.c2;have c3:=HKc.out.c3;go_wp2_with fail;refine HH.out.mono ?_;rintro e v4 ⟨rfl,hb4⟩;have HKc:=Lib.hid (HKc.out.later hb4);have HRU:=Lib.hid (HRU.out.later hb4);have HRO:=Lib.hid (HO.out.2.1.later hb4);clear hb4 c2 c3
   cases z with
   | true=>
    have HCB:Hid (checkB t a n=false):=by
     have h:=HZ.out;rw[has_dl (Tr.rightB_iff.1 HT.out) HU.out.2.1]at h;unfold Hid checkB;rw[h,Bool.not_true,Bool.and_false]
    go_wp2_with fail;go_ret2;exact dots_none HCB.out HKc.out.below
   | false=>
    have HCB:Hid (checkB t a n=true):=by
     have h:=HZ.out;rw[has_dl (Tr.rightB_iff.1 HT.out) HU.out.2.1]at h;unfold Hid checkB;rw[h,HT.out,HD.out];rfl
    have HKx:=HKc;have HUN:=Lib.hid (unionC_any u (oneC a n) m mo B Ao d co v4 HU.out.1 HO.out.1 (by have:=HU.out.2.2;have:=HN.out;omega) (by have:=HO.out.2.2;omega) HRU.out HRO.out HU.out.2.1.right (right_oneC HD.out));go_wp2_with fail;refine HUN.out.mono ?_;rintro e v5 ⟨v,k,A',c',rfl,hv1,hvp,hk,how,hb5⟩;have HKc:=Lib.hid (HKx.out.later hb5);have HV:=Lib.hid (And.intro hv1.out (And.intro hvp.out (And.intro hk how.out)));clear hv1 hvp hk how hb5 HUN HH HOF;go_wp2_with fail;go_ret2;exact⟨v,0,k,c',A',rfl,Lib.hid (And.intro HV.out.1 ((RO.of_own HV.out.2.2.2).mono fun b hb _=>Nat.le_trans (HKx.out.below.size) hb.1)),Lib.hid (And.intro (fun _=>⟨rfl,u,HU.out.2.1,HV.out.2.1,by have:=HU.out.2.2;have:=HO.out.2.2;have:=HV.out.2.2.1;omega⟩) (fun h=>by rw[HCB.out]at h;cases h)),HKc.out.below⟩
  ·have HCB:Hid (checkB t a n=false):=by
    unfold Hid checkB
    cases hd:Dt.rightB a n with
    | false=>rw[Bool.and_false];rfl
    | true=>exact absurd (fun x hx=>by rw[List.mem_singleton.1 hx];exact hd) hno
   have HKc:=Lib.hid (HKd.out.later hb3);clear hno hb3;go_wp2_with fail;go_ret2;exact dots_none HCB.out HKc.out.below
end Cs
end Go.Proofs.YtjpcechcefhcfaaGreat
namespace Go.Proofs.YtjpcechcefhcfaaGreat
open Go.ChangeShapes Go.WideShapes Go.ChangeAt Go.RowKit
namespace Cs
open Tr Cx Sp Rw Classical
theorem RdP.of_own {w:World} {lo:Nat} {k:K} {Ae Ak Ca:Option Addr} {ne ce nk ck na ca9:Nat} (h:OwC w lo k Ae ne ce Ak nk ck Ca na ca9):RdP w ⟨k,⟨Ae,ne,ce⟩,⟨Ak,nk,ck⟩,⟨Ca,na,ca9⟩⟩:=⟨h.rdT,h.len,h.ctx.rd⟩
theorem RdP.zero (w:World):RdP w ⟨noneK,⟨none,0,0⟩,⟨none,0,0⟩,⟨none,0,0⟩⟩:=⟨RdT.none _ _ _ _,rfl,Rd.nil _⟩
set_option maxRecDepth 100000 in
theorem cau_of_trod {H:Type} {enc:TypeId×Value→H} {W:World} {fuel:Nat} {cs:List Value} {x:DataW H×List MemPlace} (h:DataW.trod enc Tryz.prog W 0 (fun _=>true) true fuel 29 cs=some x) (hw:∀ m∈x.1.weights Tryz.prog 29,m≤reachBytes) :
  ∃ p:CP,cs=cpV p∧RdP W p∧LenT reachBytes p.k.1:=by
 obtain⟨f0,f1,hT,t0,o0,t1,o1⟩:∃ f0 f1:Field,Tryz.prog.underlying 29=some (.struct #[f0,f1])∧f0.type=25∧f0.offset=0∧f1.type=27∧f1.offset=2:=⟨_,_,Tryz.underlying29,rfl,rfl,rfl,rfl⟩;obtain⟨xs,n,rfl,rfl,hlen,hxl,hfs⟩:=DataW.trod_struct hT h
 have hc3:Tryz.prog.cellsOf 29=3:=by kernel_rfl
 have hc2:Tryz.prog.cellsOf 25=2:=by kernel_rfl
 have hc1:Tryz.prog.cellsOf 27=1:=by kernel_rfl
 rw[hc3]at hlen
 obtain⟨c0,c1,c2,rfl⟩:∃ c0 c1 c2,cs=[c0,c1,c2]:=by
  match cs,hlen with
  | [c0,c1,c2],_=>exact⟨_,_,_,rfl⟩
 have h0:=hfs 0 f0 rfl;have h1:=hfs 1 f1 rfl;rw[t0,o0,hc2,List.getElem?_eq_getElem (by rw[hxl];simp)]at h0;rw[t1,o1,hc1,List.getElem?_eq_getElem (by rw[hxl];simp)]at h1
 simp at h0 h1
 obtain⟨x0,x1,rfl⟩:∃ x0 x1,xs=[x0,x1]:=by
  match xs,hxl with
  | [x0,x1],_=>exact⟨_,_,rfl⟩
 simp at h0 h1
 have hw0:∀ m∈x0.1.weights Tryz.prog 25,m≤reachBytes:=fun m hm=>hw m (by simp only[DataW.weights,hT];simp[DataW.weightsEach,t0,t1,hm]);obtain⟨t,se,sk,e1,hr,hl⟩:=tree_of_trod types _ h0 hw0
 simp at e1
 obtain⟨rfl,rfl⟩:=e1
 obtain⟨A,nn,cc,rfl⟩:∃ A nn cc,c2 = .slice A nn cc:=by
  rcases DataW.trod_slice Tryz.underlying27 h1 with ⟨e,_⟩ | ⟨a,len,cap,_,_,_,_,e,_⟩ <;> exact⟨_,_,_,by simpa using e⟩
 obtain⟨l,hl1,hl2,_⟩:=ctx_of_trod (A:=A) (len:=nn) (cap:=cc) h1;exact⟨⟨(t,l),se,sk,⟨A,nn,cc⟩⟩,rfl,⟨hr,hl1,hl2⟩,hl⟩
set_option maxRecDepth 100000 in
theorem cauV_of_trod {H:Type} {enc:TypeId×Value→H} {W:World} {b0:Nat} {v:Value} {d:DataW H} {p:List MemPlace}
  (hv:Value.okWide Tryz.prog W .any b0 29 v) (h:DataW.Trod enc Tryz.prog W 0 (fun _=>true) true 29 v d p) (hw:∀ m∈d.weights Tryz.prog 29,m≤reachBytes) :
  ∃ (t:T) (cs:List S3) (Ae Ak Ca:Option Addr) (ne nk ce ck na ca9:Nat),v = .agg #[.slice Ae ne ce,.slice Ak nk ck,.slice Ca na ca9]∧RdP W ⟨(t,cs),⟨Ae,ne,ce⟩,⟨Ak,nk,ck⟩,⟨Ca,na,ca9⟩⟩∧LenT reachBytes t:=by
 obtain⟨cs,rfl,hsz⟩:∃ cs,v = .agg cs∧cs.size = Tryz.prog.cellsOf 29:=by
  simp only[Value.okWide,Tryz.underlying29]at hv;obtain⟨cs,h1,h2,_⟩:=hv;exact⟨cs,h1,h2⟩
 obtain⟨fuel,hf⟩:=h;obtain⟨⟨⟨t,l⟩,⟨Ae,ne,ce⟩,⟨Ak,nk,ck⟩,⟨Ca,na,ca9⟩⟩,he,hr,hl⟩:=cau_of_trod hf hw;refine⟨t,l,Ae,Ak,Ca,ne,nk,ce,ck,na,ca9,?_,hr,hl⟩;have:cs.toList=[.slice Ae ne ce,.slice Ak nk ck,.slice Ca na ca9]:=he;rw[← Array.toArray_toList (xs:=cs),this]
theorem same_true {a b:K} (h:RK a) (e:a=b):sameKB a b=true:=by
 unfold sameKB;rw[rightKB_iff.2 h,decide_eq_true e];rfl
end Cs
end Go.Proofs.YtjpcechcefhcfaaGreat
