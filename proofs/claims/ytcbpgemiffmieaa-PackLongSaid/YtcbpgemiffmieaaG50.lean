/- Texts of the lower layers, and of layer 9, put together. -/
import Derived.Test.YtcbpgemiffmieaaG00
import Derived.Test.YtcbpgemiffmieaaCauMrgK
import Derived.Test.YtcbpgemiffmieaaG10
import Derived.Test.YtcbpgemiffmieaaG20
import Derived.Test.YtcbpgemiffmieaaTreeRefRight
import Derived.Test.YtcbpgemiffmieaaG01
namespace Go.Proofs.Ytcbpgemiffmieaa
open Go.ChangeShapes Go.WideShapes Go.ChangeAt Go.RowKit
namespace Cs
open Tr Cx Sp Rw
theorem boxC2 (w:World) (Ae Ak Be Bk Ca Cb:Option Addr) (ne nk ce ck me mk de dk na ca9 nb cb9:Nat):∃ (W:World) (p q:Nat),Hid (W=(w.alloc (.cells #[.slice Ae ne ce,.slice Ak nk ck,.slice Ca na ca9] 31)).alloc (.cells #[.slice Be me de,.slice Bk mk dk,.slice Cb nb cb9] 31))∧Hid (p=w.heap.size)∧Hid (q=p+1)∧Hid (Kept [(⟨p,0,none⟩,.slice Ae ne ce),(⟨p,1,none⟩,.slice Ak nk ck),(⟨p,2,none⟩,.slice Ca na ca9),(⟨q,0,none⟩,.slice Be me de),(⟨q,1,none⟩,.slice Bk mk dk),(⟨q,2,none⟩,.slice Cb nb cb9)] w W):=by
 refine⟨_,_,_,rfl,rfl,rfl,?_⟩;have h0:=Kept.nil_of (Dt.box2_below w #[.slice Ae ne ce,.slice Ak nk ck,.slice Ca na ca9] #[.slice Be me de,.slice Bk mk dk,.slice Cb nb cb9] 31 31)
 refine (((((h0.cons_of ?_).cons_of ?_).cons_of ?_).cons_of ?_).cons_of ?_).cons_of ?_ <;> go_simp
theorem RdK.more {w:World} {B B' n c:Nat} {A:Option Addr} {ks:List Kd} (h:RdK w B A n c ks) (hB:B≤B'):RdK w B' A n c ks:=by
 obtain⟨xs,h1,h2,h3⟩:=h;refine⟨xs,h1.more hB,h2,fun i hi=>?_⟩;obtain⟨se,sk,e1,e2,e3,e4⟩:=h3 i hi;exact⟨se,sk,e1,e2,e3,RdT.more hB _ e4⟩
end Cs
end Go.Proofs.Ytcbpgemiffmieaa
namespace Go.Proofs.Ytcbpgemiffmieaa
open Go.ChangeShapes Go.WideShapes Go.ChangeAt Go.RowKit
namespace Cs
open Tr Cx Sp Rw Classical
theorem empty_of {l:List S3} (hl:RightC l) (h:∀ d n,Cen d→hasC l d n=false):l=[]:=extC hl right_noneC fun d n hd=>by rw[h d n hd];rfl
theorem rightKB_of {t:T} {cs u l:List S3} (ht:rightB 5 t=true) (hc:RightC cs) (hu:OfC (dl t) u) (hl:PutC minF u cs l):rightKB (t,cs)=decide (l=[]):=by
 have hiff:RK (t,cs)↔l=[]:=by
  constructor
  ·intro h
   refine empty_of hl.right fun d n hd=>?_;rw[hl.has d n hd];unfold minF
   cases h1:hasC u d n with
   | false=>rfl
   | true=>
    have h2:=(hu.has d n hd).1 h1;unfold dl at h2;obtain⟨x,hx,he⟩:=List.mem_map.1 h2;have h3:=h.has x hx;have e1:x.2.a=d:=congrArg Prod.fst he;have e2:x.2.n=n:=congrArg Prod.snd he;rw[e1,e2]at h3;rw[show hasC cs d n=true from h3];rfl
  ·rintro rfl
   refine⟨rightB_iff.1 ht,hc,fun x hx=>?_⟩;have hm:(x.2.a,x.2.n)∈dl t:=List.mem_map.2 ⟨x,hx,rfl⟩;have hd:=(good_num (good_dl (rightB_iff.1 ht) _ hm)).1;have h1:=(hu.has x.2.a x.2.n hd).2 hm;have h2:=hl.has x.2.a x.2.n hd;rw[h1]at h2;have h3:hasC [] x.2.a x.2.n=false:=rfl;rw[h3]at h2;show hasC cs x.2.a x.2.n=true
   cases h4:hasC cs x.2.a x.2.n with
   | true=>rfl
   | false=>rw[h4]at h2;cases h2
 unfold rightKB
 by_cases h:l=[]
 ·rw[decide_eq_true h]
  exact decide_eq_true (hiff.2 h)
 ·rw[decide_eq_false h]
  exact decide_eq_false fun h2=>h (hiff.1 h2)
theorem rightKB_noT {t:T} {cs:List S3} (h:rightB 5 t=false):rightKB (t,cs)=false:=decide_eq_false fun h2=>by
 have h3:=rightB_iff.2 h2.tree;rw[h]at h3
 cases h3
theorem rightKB_noC {t:T} {cs:List S3} (h:¬RightC cs):rightKB (t,cs)=false:=decide_eq_false fun h2=>h h2.ctx
theorem boxC1 (w:World) (Ae Ak Ca:Option Addr) (ne nk ce ck na ca9:Nat):∃ (W:World) (p:Nat),Hid (W=w.alloc (.cells #[.slice Ae ne ce,.slice Ak nk ck,.slice Ca na ca9] 31))∧Hid (p=w.heap.size)∧Hid (Kept [(⟨p,0,none⟩,.slice Ae ne ce),(⟨p,1,none⟩,.slice Ak nk ck),(⟨p,2,none⟩,.slice Ca na ca9)] w W):=by
 refine⟨_,_,rfl,rfl,?_⟩;have h0:=Kept.nil_of (Dt.box_below w #[.slice Ae ne ce,.slice Ak nk ck,.slice Ca na ca9] 31)
 refine ((h0.cons_of ?_).cons_of ?_).cons_of ?_ <;> go_simp
set_option maxRecDepth 100000 in
set_option maxHeartbeats 4000000 in
theorem rightK_any (t:T) (cs:List S3) (Ae Ak Ca:Option Addr) (ne nk ce ck na ca9:Nat) (w:World) (hn:nodes t≤10000) (hl:cs.length=na) (hna:na≤10000) (hr:RdT w w.heap.size t ⟨Ae,ne,ce⟩ ⟨Ak,nk,ck⟩) (hc:Rd w w.heap.size 3 Ca na ca9 (spsC cs)) :
  Calls Try.prog 11 #[.agg #[.slice Ae ne ce,.slice Ak nk ck,.slice Ca na ca9]] w fun e w'=>e = .returned (.bool (rightKB (t,cs)))∧Below w.heap.size w w':=by
 obtain⟨z,hz⟩:∃ z,rightKB (t,cs)=z:=⟨_,rfl⟩;rw[hz];have HZ:=Lib.hid hz;have HR:=Lib.hid (And.intro hr (And.intro hl hc));have HN:=Lib.hid hn;clear hz hr hl hc hn;obtain⟨W,p,HW,HP,HK⟩:=boxC1 w Ae Ak Ca ne nk ce ck na ca9;have hb:=HK.out.below;obtain⟨c0,c1,c2,-⟩:=HK.out.cj;have HRT:=Lib.hid (RdT.more hb.size _ (RdT.below HR.out.1 hb));clear hb;go_enter Try.func11,Try.ntmps11;go_wp2_with fail;rw[← HP.out,← HW.out]
 cases hb:rightB 5 t with
 | false=>
  obtain rfl:z=false:=by rw[← HZ.out];exact rightKB_noT hb
  refine (dotsT_bad t Ae Ak ne nk ce ck W hb (LenT.few (by have:=HN.out;omega)) HRT.out).mono ?_;rintro e w1 ⟨rfl,hb1⟩;have HB1:=Lib.hid (HK.out.below.trans (hb1.mono HK.out.below.size));clear hb1 c0 c1 c2 hb;go_wp2_with fail;go_ret;exact⟨rfl,HB1.out⟩
 | true=>
  refine (dotsT_any t Ae Ak ne nk ce ck W hb (LenT.few (by have:=HN.out;omega)) HN.out HRT.out).mono ?_;rintro e w1 ⟨u,q,A,c,rfl,HUL,HOF,hq,HRU,hb1⟩;have HK1:=Lib.hid (HK.out.later hb1);have hcr:=(HR.out.2.2.below HK1.out.below).more HK1.out.below.size;have HT:=Lib.hid hb;clear hb1 c0 c1 c2 hb;have c2:=HK1.out.c2
  by_cases hc:RightC cs
  ·have HLQ:=Lib.hid (leqC_any u cs q na A Ca c ca9 w1 HUL.out HR.out.2.1 (by have:=HN.out;omega) (by omega) HRU.out hcr HOF.out.right hc)
   have HC:=Lib.hid hc;clear hcr hc;go_wp2_with fail;refine HLQ.out.mono ?_;rintro e w2 ⟨l,hpl,rfl,hb2⟩;have HB2:=Lib.hid (HK1.out.below.trans (hb2.mono HK1.out.below.size));obtain⟨y,hy⟩:∃ y,decide (l=[])=y:=⟨_,rfl⟩;rw[hy]
   have hzy:z=y:=by rw[← HZ.out,← hy];exact rightKB_of HT.out HC.out HOF.out hpl
   have HZY:=Lib.hid hzy;clear hpl hb2 hy hzy;go_wp2_with fail;go_ret;exact⟨by rw[HZY.out];try rfl,HB2.out⟩
  ·obtain rfl:z=false:=by rw[← HZ.out];exact rightKB_noC hc
   have HLQ:=Lib.hid (leqC_bad u cs q na A Ca c ca9 w1 HUL.out HR.out.2.1 (by have:=HN.out;omega) (by omega) HRU.out hcr (by rw[rightCB_false hc,Bool.and_false]));clear hcr hc;go_wp2_with fail;refine HLQ.out.mono ?_;rintro e w2 ⟨rfl,hb2⟩;have HB2:=Lib.hid (HK1.out.below.trans (hb2.mono HK1.out.below.size));clear hb2;go_wp2_with fail;go_ret;exact⟨rfl,HB2.out⟩
end Cs
end Go.Proofs.Ytcbpgemiffmieaa
namespace Go.Proofs.Ytcbpgemiffmieaa
namespace Cs
open Tr Cx Sp Rw Classical
def oneC (a n:Int):List S3:=[(a,n,n)]
theorem part_oneC (a n d:Int):Cx.part (oneC a n) d=if a=d then [(n,n)]else []:=by
 unfold oneC;rw[part_cons,part_nil]
theorem has_oneC (a n d m:Int):hasC (oneC a n) d m=decide (d=a∧m=n):=by
 unfold hasC;rw[part_oneC]
 by_cases h:a=d
 ·rw[if_pos h,has_cons,has_nil,Bool.or_false]
  by_cases h2:m=n
  ·rw[decide_eq_true (by omega),decide_eq_true ⟨h.symm,h2⟩]
  ·rw[decide_eq_false (by omega),decide_eq_false fun h3=>h2 h3.2]
 ·rw[if_neg h,has_nil,decide_eq_false fun h3=>h h3.1.symm]
theorem right_oneC {a n:Int} (h:Dt.rightB a n=true):RightC (oneC a n):=by
 obtain⟨hc,h1,h2⟩:=Cx.good_num (x:=(a,n)) h;refine⟨⟨hc.1,hc.2,trivial⟩,fun d _=>?_⟩;rw[part_oneC]
 split
 ·exact⟨h1,Int.le_refl _,h2,trivial⟩
 ·trivial
theorem right_oneT {d:Nat} {e:E} (he:RightE e):RightT (d+1) (oneT e):=⟨fun x hx=>by
 rw[List.mem_singleton.1 hx];exact he,by simp,by simp,by simp⟩
theorem nodes_one (e:E):nodes (oneT e)=1:=by unfold oneT;rw[nodes_mk];rfl
end Cs
end Go.Proofs.Ytcbpgemiffmieaa
namespace Go.Proofs.Ytcbpgemiffmieaa
namespace Cs
open Tr Cx Sp Rw Classical
end Cs
end Go.Proofs.Ytcbpgemiffmieaa
namespace Go.Proofs.Ytcbpgemiffmieaa
namespace Cs
open Tr Cx Sp Rw Classical
end Cs
end Go.Proofs.Ytcbpgemiffmieaa
namespace Go.Proofs.Ytcbpgemiffmieaa
namespace Cs
open Tr Cx Sp Rw Classical
theorem rise_ext {l m:List ByteArray} (hl:l.Pairwise ltS) (hm:m.Pairwise ltS) (h:∀ x,x∈l↔x∈m):l=m:=by
 refine up_ext (key:=id) tot_str hl hm fun k=>?_
 by_cases hk:k∈l
 ·rw[show look id l k=some k from (look_iff (key:=id) tot_str hl).2 ⟨hk,rfl⟩,show look id m k=some k from (look_iff (key:=id) tot_str hm).2 ⟨(h k).1 hk,rfl⟩]
 ·rw[show look id l k=none from look_none fun x hx e=>hk (by rw[← show x=k from e];exact hx),show look id m k=none from look_none fun x hx e=>hk (by rw[← show x=k from e];exact (h x).2 hx)]
structure SortIs (l m:List ByteArray):Prop where
 rise:m.Pairwise ltS
 mem:∀ x,x∈m↔x∈l
theorem SortIs.eq {l m m':List ByteArray} (h:SortIs l m) (h':SortIs l m'):m=m':=rise_ext h.rise h'.rise fun x=>(h.mem x).trans (h'.mem x).symm
end Cs
end Go.Proofs.Ytcbpgemiffmieaa
namespace Go.Proofs.Ytcbpgemiffmieaa
namespace Cs
open Tr Cx Sp Rw Classical
structure OpM where
 path:List ByteArray
 act:Int
 s:ByteArray
 n:Int
def kindK (k:ByteArray):Nat:=match k.data.toList with
 | 102::_=>1
 | 115::_=>2
 | 99::_=>3
 | 114::_=>4
 | 109::_=>5
 | _=>0
def lastK (p:List ByteArray):Nat:=match p.getLast? with
 | some k=>kindK k
 | none=>0
structure PathOk (p:List ByteArray):Prop where
 some:p≠[]
 few:p.length≤3
 each:∀ k∈p,k.size≤30∧kindK k≠0
 maps:∀ (i:Nat) (h:i<p.length),i+1<p.length→kindK p[i]=5
def actOk (a:Int) (k:Nat):Prop:=(a=1∨a=2)∧k=1∨(a=3∨a=4)∧k=2∨a=5∧k=3∨a=6∧k=4∨a=7
structure OpOk (o:OpM):Prop where
 path:PathOk o.path
 act:actOk o.act (lastK o.path)
 key:(o.act=3∨o.act=4)→KeyOk o.s
 text:o.act=6→o.s.size≤30
 none_:¬(o.act=3∨o.act=4∨o.act=6)→o.s=⟨#[]⟩
 num:o.act=5 → -1099511627776≤o.n∧o.n≤1099511627776
 zero:o.act≠5→o.n=0
structure Ev where
 d:Int×Int
 o:OpM
 seen:List S3
structure Made15 (all:List Ev):Prop where
 diff:all.Pairwise fun x y=>x.d≠y.d
 ok:∀ x∈all,OpOk x.o
 seen:∀ x∈all,∀ a n,hasC x.seen a n=true→∃ y∈all,y.d=(a,n)
theorem pair_one:∀ {all:List Ev},all.Pairwise (fun x y=>x.d≠y.d)→∀ x∈all,∀ y∈all,x.d=y.d→x=y
 | [],_,x,hx,_,_,_=>by cases hx
 | z::l,h,x,hx,y,hy,e=>by
  obtain⟨h1,h2⟩:=List.pairwise_cons.1 h
  rcases List.mem_cons.1 hx with h3 | h3 <;> rcases List.mem_cons.1 hy with h4 | h4
  ·rw[h3,h4]
  ·exact absurd (by rw[← h3];exact e) (h1 y h4)
  ·exact absurd (by rw[← h4];exact e.symm) (h1 x h3)
  ·exact pair_one h2 x h3 y h4 e
theorem Made15.one {all:List Ev} (h:Made15 all):∀ x∈all,∀ y∈all,x.d=y.d→x=y:=pair_one h.diff
theorem Made15.snoc {all:List Ev} (h:Made15 all) {ev:Ev} (hf:∀ y∈all,y.d≠ev.d) (ho:OpOk ev.o) (hs:∀ a n,hasC ev.seen a n=true→∃ y∈all,y.d=(a,n)):Made15 (all++[ev]):=by
 have hin:∀ y,y∈all++[ev]↔y∈all∨y=ev:=fun y=>by rw[List.mem_append,List.mem_singleton]
 refine⟨List.pairwise_append.2 ⟨h.diff,by simp,fun x hx y hy=>by rw[List.mem_singleton.1 hy];exact hf x hx⟩,fun x hx=>?_,fun x hx a n hh=>?_⟩
 ·rcases (hin x).1 hx with hx | rfl
  ·exact h.ok x hx
  ·exact ho
 ·rcases (hin x).1 hx with hx | rfl
  ·obtain⟨y,hy,hd⟩:=h.seen x hx a n hh
   exact⟨y,(hin y).2 (.inl hy),hd⟩
  ·obtain⟨y,hy,hd⟩:=hs a n hh
   exact⟨y,(hin y).2 (.inl hy),hd⟩
end Cs
end Go.Proofs.Ytcbpgemiffmieaa
