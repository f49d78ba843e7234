/- Texts of the lower layers, and of layer 9, put together. -/
import Derived.Test.YtcbpgemiffmieaaOpRef1
import Derived.Lib.Strings
import Derived.Lib.Slices
import Derived.Lib.Walk
import Derived.Lib.Bytealg
import Derived.Test.YtcbpgemiffmieaaG00
import Derived.Test.YtcbpgemiffmieaaG20
import Derived.Test.YtcbpgemiffmieaaG50
import Derived.Test.YtcbpgemiffmieaaCauJoin
import Derived.Test.YtcbpgemiffmieaaTreeRefSame
import Derived.Test.YtcbpgemiffmieaaG10
namespace Go.Proofs.Ytcbpgemiffmieaa
open Go.ChangeShapes Go.WideShapes Go.ChangeAt Go.RowKit
namespace Cs
open Tr Cx Sp Rw Classical
end Cs
end Go.Proofs.Ytcbpgemiffmieaa
namespace Go.Proofs.Ytcbpgemiffmieaa
open Go.ChangeShapes Go.WideShapes Go.ChangeAt Go.RowKit
namespace Cs
open Tr Cx Sp Rw Classical
end Cs
end Go.Proofs.Ytcbpgemiffmieaa
namespace Go.Proofs.Ytcbpgemiffmieaa
open Go.ChangeShapes Go.WideShapes Go.ChangeAt Go.RowKit
namespace Cs
open Tr Cx Sp Rw Classical
end Cs
end Go.Proofs.Ytcbpgemiffmieaa
namespace Go.Proofs.Ytcbpgemiffmieaa
open Go.ChangeShapes Go.WideShapes Go.ChangeAt Go.RowKit
namespace Cs
open Tr Cx Sp Rw Classical
end Cs
end Go.Proofs.Ytcbpgemiffmieaa
namespace Go.Proofs.Ytcbpgemiffmieaa
open Go.ChangeShapes Go.WideShapes Go.ChangeAt Go.RowKit
namespace Pk
open Tr Cx Cs Sp Rw Codec
end Pk
end Go.Proofs.Ytcbpgemiffmieaa
namespace Go.Proofs.Ytcbpgemiffmieaa
open Go.ChangeShapes Go.WideShapes Go.ChangeAt Go.RowKit
namespace Pk
open Tr Cx Cs Sp Rw Codec
def CapK (bs:List UInt8):Prop:=(∀ t x,RightT 5 t→bs=treeB t++x→nodes t≤10000)∧(∀ t c x,RightT 5 t→RightC c→bs=treeB t++(ctxB c++x)→c.length≤10000)
theorem ctxB_pos (c:List S3):1≤(ctxB c).length:=listB_pos c
theorem cap_tree {bs r:List UInt8} {t:T} {b:Bool} (h:CapK bs) (h1:Got treeB (RightT 5) none_ bs t r b):nodes t≤10000:=by
 cases hb:b with
 | true=>rw[h1.2.2 hb];simp[none_,nodes_mk]
 | false=>
  rcases h1.1 with ⟨_,e⟩ | ⟨e,_⟩
  ·exact h.1 t r (h1.2.1 hb) e
  ·rw[hb]at e;cases e
theorem cap_ctx {bs r r2:List UInt8} {t:T} {c:List S3} {b b2:Bool} (h:CapK bs) (h1:Got treeB (RightT 5) none_ bs t r b) (h2:Got ctxB RightC [] r c r2 b2):c.length≤10000:=by
 cases hb2:b2 with
 | true=>rw[h2.2.2 hb2];simp
 | false=>
  rcases h2.1 with ⟨_,e2⟩ | ⟨e2,_⟩
  ·rcases h1.1 with ⟨hb,e⟩ | ⟨hb,e,_⟩
   ·exact h.2 t c r2 (h1.2.1 hb) (h2.2.1 hb2) (by rw[e,e2])
   ·rw[e]at e2
    have h3:=congrArg List.length e2;have h4:=ctxB_pos c;rw[List.length_append,List.length_nil]at h3;omega
  ·rw[hb2]at e2;cases e2
theorem cap_few {bs:List UInt8} (h:bs.length≤10000):CapK bs:=by
 refine⟨fun t x _ e=>?_,fun t c x _ _ e=>?_⟩
 ·have h1:=nodes_le t
  have h2:=congrArg List.length e;rw[List.length_append]at h2;omega
 ·have h2:=congrArg List.length e
  have h3:=list_len (f:=spB) (l:=c) fun s _=>sp_pos s;unfold ctxB listB at h2;simp only[List.length_append]at h2;omega
set_option maxRecDepth 100000 in
set_option maxHeartbeats 4000000 in
theorem getcaus_any {w:World} {l:List (Addr×Value)} {F:List Nat} {a:Nat} {bs:List UInt8} {bad:Bool} (hbs:bs.length≤100000) (hcap:CapK bs) (h:InC w l F a bs bad) :
  Calls Try.prog 15 #[.pointer (some ⟨a,0,none⟩)] w fun e w'=>∃ (u:K) (se sk sc:SV) (r:List UInt8) (b:Bool),e = .returned (.agg #[.slice se.A se.n se.c,.slice sk.A sk.n sk.c,.slice sc.A sc.n sc.c])∧Hid (RdO w' (fun z=>w.heap.size≤z) u.1 se sk)∧Hid (u.2.length=sc.n)∧Hid (Own w' w.heap.size 40 3 sc.A sc.n sc.c (spsC u.2))∧Hid (Gt a w l F r b w')∧Hid (Got causB RK (none_,[]) bs u r b):=by
 have HO:=Lib.hid h;have HG0:=Lib.hid (Gt.refl h);have haw:=h.at_.lt;have HCAP:=Lib.hid hcap;clear hcap;clear h;obtain⟨p,hp⟩:∃ p,p=w.heap.size:=⟨_,rfl⟩;obtain⟨W,hW⟩:∃ W,W=w.alloc (.cells #[.slice none 0 0,.slice none 0 0,.slice none 0 0] 31):=⟨_,rfl⟩
 have HG1:Hid (Gt a w ([(⟨p,0,none⟩,.slice none 0 0),(⟨p,1,none⟩,.slice none 0 0),(⟨p,2,none⟩,.slice none 0 0)]++l) ([p]++F) bs bad W):=by
  refine HG0.out.add (by rw[hW];exact Dt.box_below _ _ _) ?_ ?_
  ·intro x hx
   simp only[List.mem_cons,List.not_mem_nil,or_false]at hx
   rcases hx with rfl | rfl | rfl <;> exact⟨by dsimp only;omega,by rw[hW];simp <;> omega,by rw[hW,hp];go_simp⟩
  ·intro q hq
   simp only[List.mem_cons,List.not_mem_nil,or_false]at hq;subst hq;exact⟨by omega,by rw[hW,hp];simp,fun j=>by rw[hW,hp];go_simp⟩
 have HPW:Hid (w.heap.size≤p):=by unfold Hid;omega
 have hap:a<p:=by omega
 have hszW:W.heap.size=p+1:=by rw[hW,hp];simp
 have HSZ:=Lib.hid hszW;have HW:=Lib.hid hW;have Hp:=Lib.hid hp;clear hp hW HG0 hszW;go_enter Try.func15,Try.ntmps15;go_wp2_with fail
 try rw[← HW.out]
 try rw[← Hp.out]
 refine (gettree_any hbs HG1.out.1).mono ?_;rintro e w1 ⟨t,⟨Ae,ne,ce⟩,⟨Ak,nk,ck⟩,r1,b1,rfl,HRT,HG,H1⟩;have HG2:=Lib.hid (HG1.out.trans HG.out);have HT1:Hid (RdO w1 (fun z=>p+1≤z) t ⟨Ae,ne,ce⟩ ⟨Ak,nk,ck⟩):=RdO.mono (fun z hz _=>by have:=HSZ.out;omega) _ HRT.out
 have hr1:r1.length≤100000:=by have:=H1.out.le;omega
 have hs1:p+1≤w1.heap.size:=HG2.out.f0.1;clear HG HG1 HRT;go_wp2_with fail;refine (getctx_any hr1 HG2.out.1).mono ?_;rintro e w2 ⟨cs,na,ca,Ca,r,b,rfl,hlc,hoc,HG3,H2⟩;have HG:=Lib.hid (HG2.out.trans HG3.out);have HT:Hid (RdO w2 (fun z=>p+1≤z) t ⟨Ae,ne,ce⟩ ⟨Ak,nk,ck⟩):=rdO_gb HT1.out HG3.out.2 (fun z hz=>by omega);have HC2:Hid (Own w2 (p+1) 40 3 Ca na ca (spsC cs)):=hoc.out.mono hs1;have HN1:=Lib.hid (cap_tree HCAP.out H1.out);have HN2:=Lib.hid (cap_ctx HCAP.out H1.out H2.out);clear HG2 HG3 hoc HT1 hs1;obtain⟨s,hs⟩:∃ s,s=w2.heap.size:=⟨_,rfl⟩;obtain⟨WS,hWS⟩:∃ W,W=w2.alloc (.cells #[.slice Ae ne ce,.slice Ak nk ck,.slice Ca na ca] 31):=⟨_,rfl⟩
 have hbS:Below w2.heap.size w2 WS:=by rw[hWS];exact Dt.box_below _ _ _
 have HGS:Hid (Gt a w ([(⟨s,0,none⟩,.slice Ae ne ce),(⟨s,1,none⟩,.slice Ak nk ck),(⟨s,2,none⟩,.slice Ca na ca)]++([(⟨p,0,none⟩,.slice none 0 0),(⟨p,1,none⟩,.slice none 0 0),(⟨p,2,none⟩,.slice none 0 0)]++l)) ([]++([p]++F)) r b WS):=by
  refine HG.out.add hbS ?_ (by simp);intro x hx;simp only[List.mem_cons,List.not_mem_nil,or_false]at hx
  rcases hx with rfl | rfl | rfl <;> exact⟨by dsimp only;omega,by rw[hWS];simp <;> omega,by rw[hWS,hs];go_simp⟩
 have hps:p<s:=by have h1:=HG.out.f0.1;omega
 have hsp:¬s=p:=by omega
 have hpsn:¬p=s:=by omega
 have HT9:Hid (RdO WS (fun z=>p+1≤z) t ⟨Ae,ne,ce⟩ ⟨Ak,nk,ck⟩):=HT.out.later hbS;clear HT;have HT:=Lib.hid HT9.out;clear HT9;have HC29:Hid (Own WS (p+1) 40 3 Ca na ca (spsC cs)):=own_later HC2.out hbS;clear HC2;have HC2:=Lib.hid HC29.out;clear HC29;have HWS:=Lib.hid hWS;have Hs:=Lib.hid hs;clear hs hWS hbS HG;obtain⟨z,hz⟩:∃ z,rightKB (t,cs)=z:=⟨_,rfl⟩;have HC:=Lib.hid (Cs.rightK_any t cs Ae Ak Ca ne nk ce ck na ca WS HN1.out hlc.out (by have:=HN2.out;have:=hlc.out;omega) (RdO.rd _ HT.out) HC2.out.rd);rw[hz]at HC;have HZ:=Lib.hid hz;clear hz;go_wp2_with fail;rw[← HWS.out]
 try rw[← Hs.out]
 refine (HC.out).mono ?_;rintro e v1 ⟨rfl,hb1⟩;have HG:=Lib.hid (HGS.out.later hb1);have HT9:Hid (RdO v1 (fun z=>p+1≤z) t ⟨Ae,ne,ce⟩ ⟨Ak,nk,ck⟩):=HT.out.later hb1;clear HT;have HT:=Lib.hid HT9.out;clear HT9;have HC29:Hid (Own v1 (p+1) 40 3 Ca na ca (spsC cs)):=own_later HC2.out hb1;clear HC2;have HC2:=Lib.hid HC29.out;clear HC29;clear HGS hb1;go_wp2_with fail;refine (gstands_any z HG.out.1).mono ?_;rintro e v2 ⟨rfl,HG2⟩;have HG3:=Lib.hid (HG.out.trans HG2.out);have HT9:Hid (RdO v2 (fun z=>p+1≤z) t ⟨Ae,ne,ce⟩ ⟨Ak,nk,ck⟩):=rdO_gb HT.out HG2.out.2 (fun z hz=>by omega);clear HT;have HT:=Lib.hid HT9.out;clear HT9;have HC29:Hid (Own v2 (p+1) 40 3 Ca na ca (spsC cs)):=own_gb HC2.out HG2.out.2 (by omega);clear HC2;have HC2:=Lib.hid HC29.out;clear HC29;obtain⟨ok,hok⟩:∃ k,(z && !b)=k:=⟨_,rfl⟩
 have hone:One causB (fun k=>RightT 5 k.1∧RightC k.2) bs (t,cs) r b:=H1.out.1.pair pre_tree ctxB_pos H2.out.1
 have HS:∀ u,u=(if ok then (t,cs)else (none_,[]))→Hid (Got causB RK (none_,[]) bs u (if ok then r else []) (!ok)):=fun u hu=>Got.of pre_caus hone (fun y hy=>⟨hy.tree,hy.ctx⟩) (by rw[← HZ.out];exact rightKB_iff) ok hok hu
 rw[hok]at HG3 ⊢;clear HG HG2 hok
 cases ok with
 | true=>
  have k0:=HG3.out.cell (p:=⟨p,0,none⟩) (v:=.slice none 0 0) (by simp);have k1:=HG3.out.cell (p:=⟨p,1,none⟩) (v:=.slice none 0 0) (by simp);have k2:=HG3.out.cell (p:=⟨p,2,none⟩) (v:=.slice none 0 0) (by simp);have j0:=HG3.out.cell (p:=⟨s,0,none⟩) (v:=.slice Ae ne ce) (by simp);have j1:=HG3.out.cell (p:=⟨s,1,none⟩) (v:=.slice Ak nk ck) (by simp);have j2:=HG3.out.cell (p:=⟨s,2,none⟩) (v:=.slice Ca na ca) (by simp);have f0:=(HG3.out.1.free p (by simp)).1.2 0;have f1:=(HG3.out.1.free p (by simp)).1.2 1;have f2:=(HG3.out.1.free p (by simp)).1.2 2;obtain⟨W9,hW9⟩:∃ W,W=(((v2.setCell ⟨p,0,none⟩ (.slice Ae ne ce)).setCell ⟨p,1,none⟩ (.slice Ak nk ck)).setCell ⟨p,2,none⟩ (.slice Ca na ca)):=⟨_,rfl⟩
  have HB9:Hid (Below w.heap.size v2 W9):=by unfold Hid;rw[hW9];exact ((((Below.refl w.heap.size v2).setCell (p:=⟨p,0,none⟩) HPW.out _).setCell (p:=⟨p,1,none⟩) HPW.out _).setCell (p:=⟨p,2,none⟩) HPW.out _)
  have HG9:Hid (Gt a w l F r false W9):=(HG3.out.sub (l2:=l) (F2:=F) (fun x hx=>List.mem_append_right _ (List.mem_append_right _ hx)) (fun x hx=>List.mem_append_right _ (List.mem_append_right _ hx))).low HO.out HB9.out
  have HTW:Hid (RdO W9 (fun z=>w.heap.size≤z) t ⟨Ae,ne,ce⟩ ⟨Ak,nk,ck⟩):=by
   refine RdO.mono (fun z hz _=>by have:=HPW.out;omega) _ (RdO.keep (ok:=fun z=>p+1≤z) (by rw[hW9];simp[World.setCell]) (fun z hz _=>?_) _ HT.out);rw[hW9];exact (((Below.heap_setCell _ ⟨p,2,none⟩ _ z (by dsimp only;omega)).trans (Below.heap_setCell _ ⟨p,1,none⟩ _ z (by dsimp only;omega))).trans (Below.heap_setCell _ ⟨p,0,none⟩ _ z (by dsimp only;omega)))
  have HC2W:Hid (Own W9 w.heap.size 40 3 Ca na ca (spsC cs)):=by
   unfold Hid;rw[hW9];exact ((((HC2.out.set_below (a:=⟨p,0,none⟩) (by dsimp only;omega) _).set_below (a:=⟨p,1,none⟩) (by dsimp only;omega) _).set_below (a:=⟨p,2,none⟩) (by dsimp only;omega) _)).mono (by have:=HPW.out;omega)
  have l0:W9.cell? ⟨p,0,none⟩=some (.slice Ae ne ce):=by rw[hW9];go_simp
  have l1:W9.cell? ⟨p,1,none⟩=some (.slice Ak nk ck):=by rw[hW9];go_simp
  have l2:W9.cell? ⟨p,2,none⟩=some (.slice Ca na ca):=by rw[hW9];go_simp
  have HW9:=Lib.hid hW9;clear hW9;have HS1:=HS _ rfl;clear HS;go_wp2;rw[← HW9.out];exact bodyPost_ret (v:=.agg #[.slice Ae ne ce,.slice Ak nk ck,.slice Ca na ca]) (by simp[results,Try.results15,go_sem,l0,l1,l2]) rfl ⟨(t,cs),⟨Ae,ne,ce⟩,⟨Ak,nk,ck⟩,⟨Ca,na,ca⟩,r,false,rfl,HTW,hlc,HC2W,HG9,HS1⟩
 | false=>
  have k0:=HG3.out.cell (p:=⟨p,0,none⟩) (v:=.slice none 0 0) (by simp);have k1:=HG3.out.cell (p:=⟨p,1,none⟩) (v:=.slice none 0 0) (by simp);have k2:=HG3.out.cell (p:=⟨p,2,none⟩) (v:=.slice none 0 0) (by simp);have j0:=HG3.out.cell (p:=⟨s,0,none⟩) (v:=.slice Ae ne ce) (by simp);have j1:=HG3.out.cell (p:=⟨s,1,none⟩) (v:=.slice Ak nk ck) (by simp);have j2:=HG3.out.cell (p:=⟨s,2,none⟩) (v:=.slice Ca na ca) (by simp);have f0:=(HG3.out.1.free p (by simp)).1.2 0;have f1:=(HG3.out.1.free p (by simp)).1.2 1;have f2:=(HG3.out.1.free p (by simp)).1.2 2;obtain⟨W9,hW9⟩:∃ W,W=(((v2.setCell ⟨p,0,none⟩ (.slice none 0 0)).setCell ⟨p,1,none⟩ (.slice none 0 0)).setCell ⟨p,2,none⟩ (.slice none 0 0)):=⟨_,rfl⟩
  have HB9:Hid (Below w.heap.size v2 W9):=by unfold Hid;rw[hW9];exact ((((Below.refl w.heap.size v2).setCell (p:=⟨p,0,none⟩) HPW.out _).setCell (p:=⟨p,1,none⟩) HPW.out _).setCell (p:=⟨p,2,none⟩) HPW.out _)
  have HG9:Hid (Gt a w l F [] true W9):=(HG3.out.sub (l2:=l) (F2:=F) (fun x hx=>List.mem_append_right _ (List.mem_append_right _ hx)) (fun x hx=>List.mem_append_right _ (List.mem_append_right _ hx))).low HO.out HB9.out
  have l0:W9.cell? ⟨p,0,none⟩=some (.slice none 0 0):=by rw[hW9];go_simp
  have l1:W9.cell? ⟨p,1,none⟩=some (.slice none 0 0):=by rw[hW9];go_simp
  have l2:W9.cell? ⟨p,2,none⟩=some (.slice none 0 0):=by rw[hW9];go_simp
  have HW9:=Lib.hid hW9;clear hW9;have HS1:=HS _ rfl;clear HS;go_wp2;rw[← HW9.out];exact bodyPost_ret (v:=.agg #[.slice none 0 0,.slice none 0 0,.slice none 0 0]) (by simp[results,Try.results15,go_sem,l0,l1,l2]) rfl ⟨(none_,[]),⟨none,0,0⟩,⟨none,0,0⟩,⟨none,0,0⟩,[],true,rfl,RdO.none _ _ _ _ _ _,rfl,⟨World.ownsRow_nil _ _ _ _,by simp[spsC]⟩,HG9,HS1⟩
end Pk
end Go.Proofs.Ytcbpgemiffmieaa
set_option maxRecDepth 100000
set_option maxHeartbeats 4000000
namespace Go.Proofs.Ytcbpgemiffmieaa
open Go.ChangeShapes Go.WideShapes Go.ChangeAt Go.RowKit
namespace Pk
open Tr Cx Cs Sp Rw Codec
def BytesP (k:K) (z:Bool) (w:World) (e:Ending) (w':World):Prop:=Below w.heap.size w w'∧((z=false∧e = .returned (.tuple #[.slice none 0 0,.int .i64 1]))∨(z=true∧60000<(causB k).length∧e = .returned (.tuple #[.slice none 0 0,.int .i64 3]))∨(z=true∧(causB k).length≤60000∧∃ A c,e = .returned (.tuple #[.slice A (causB k).length c,.int .i64 0])∧Own w' w.heap.size 5 1 A (causB k).length c (u8s (causB k))))
theorem out_new (w W:World) (a:Nat) (ha:a=w.heap.size) (hW:W=w.alloc (.cells #[.slice none 0 0,.bool false] 52)):OutAt W a none [] false:=by
 have h0:W.cell? ⟨a,0,none⟩=some (.slice none 0 0):=by rw[hW,ha];go_simp
 exact⟨⟨none,0,h0,rfl,World.ownsRow_nil _ _ _ _⟩,by rw[hW,ha];go_simp,by rw[hW,ha];go_simp,by rw[hW,ha];go_simp,by simp,by simp,fun h=>rfl⟩
theorem gb_below {w w':World} {a B:Nat} (h:w.grownBy w' (some a)) (ha:B≤a) (hB:B≤w.heap.size):Below B w w':=⟨h.os,h.tape,h.output,h.size,fun k hk=>h.block k (by omega) (fun e=>by injection e with e;omega)⟩
theorem bytes_any (t:T) (xs:List S3) (Ae Ak Ca:Option Addr) (ne nk ce ck na ca:Nat) (w:World) (z:Bool) (hz:rightKB (t,xs)=z) (hn:nodes t≤10000) (hl:xs.length=na) (hm:na≤10000) (hr:RdT w w.heap.size t ⟨Ae,ne,ce⟩ ⟨Ak,nk,ck⟩) (hc:Rd w w.heap.size 3 Ca na ca (spsC xs)) :
  Calls Try.prog 7 #[.agg #[.slice Ae ne ce,.slice Ak nk ck,.slice Ca na ca]] w (BytesP (t,xs) z w):=by
 obtain⟨p,hp⟩:∃ p,p=w.heap.size:=⟨_,rfl⟩;obtain⟨W,hW⟩:∃ W,W=w.alloc (.cells #[.slice Ae ne ce,.slice Ak nk ck,.slice Ca na ca] 31):=⟨_,rfl⟩
 have HK:Hid (Kept [(⟨p,0,none⟩,.slice Ae ne ce),(⟨p,1,none⟩,.slice Ak nk ck),(⟨p,2,none⟩,.slice Ca na ca)] w W):=by
  have h0:=Kept.nil_of (show Below w.heap.size w W by rw[hW];exact Dt.box_below _ _ _)
  refine ((h0.cons_of ?_).cons_of ?_).cons_of ?_ <;> (rw[hW,hp];go_simp)
 have HR:=Lib.hid hr;have HC:=Lib.hid hc;have HL:=Lib.hid hl;have HZ:=Lib.hid hz;have HQ:=Lib.hid (Cs.rightK_any t xs Ae Ak Ca ne nk ce ck na ca W hn hl hm (RdT.later hr HK.out.below) (hc.later HK.out.below));rw[hz]at HQ;have Hp:=Lib.hid hp;have HW:=Lib.hid hW;clear hr hc hl hz hp hW;go_enter Try.func7,Try.ntmps7;go_wp2_with fail
 try rw[← HW.out]
 try rw[← Hp.out]
 refine HQ.out.mono ?_;rintro e w1 ⟨rfl,hb1⟩;have HK1:=Lib.hid (HK.out.later hb1);obtain⟨k0,k1,k2,-⟩:=HK1.out.cj;clear hb1 HK HQ
 cases z with
 | false=>
  have HB:=Lib.hid HK1.out.below;go_wp2;go_ret2;exact⟨HB.out,.inl ⟨rfl,rfl⟩⟩
 | true=>
  have HT:=Lib.hid (rightKB_iff.1 HZ.out);obtain⟨a,ha⟩:∃ a,a=w1.heap.size:=⟨_,rfl⟩;obtain⟨WA,hWA⟩:∃ W,W=w1.alloc (.cells #[.slice none 0 0,.bool false] 52):=⟨_,rfl⟩
  have hbA:Below w1.heap.size w1 WA:=by rw[hWA];exact Dt.box_below _ _ _
  have HKA:=Lib.hid (HK1.out.later hbA);have HO:Hid (OutC WA [] w.heap.size a none [] false):=⟨out_new w1 WA a ha hWA,by rw[ha];exact HK1.out.below.size,(fun k hk=>by cases hk),(by simp)⟩;have HP:=Lib.hid (Pt.refl HO.out);have HBA:Hid (Below w.heap.size w WA):=HKA.out.below;have Ha:=Lib.hid ha;have HWA:=Lib.hid hWA;obtain⟨m0,m1,m2,-⟩:=HKA.out.cj;rw[hWA]at m0 m1 m2;clear ha hWA hbA k0 k1 k2;go_wp2_with fail;rw[← HWA.out]
  try rw[← Ha.out]
  clear m0 m1 m2;refine (HP.out.then (fun _ _ _ h=>pcaus_any t xs Ae Ak Ca ne nk ce ck na ca HT.out.tree (by omega) HL.out (by omega) (fun s hs=>right_spI HT.out.ctx hs) (RdT.below HR.out HBA.out) (HC.out.below HBA.out) h)).mono ?_;rintro e w2 ⟨rfl,HP2⟩;rw[List.nil_append]at HP2;have HB2:=Lib.hid (HBA.out.trans (HP2.out.below HO.out));obtain⟨g',hoc,_,_⟩:=HP2.out;have hend:=end_any a g' _ _ w2 hoc.at_;obtain⟨sb,hsb⟩:∃ s,s=causB (t,xs):=⟨_,rfl⟩;rw[← hsb]at hend;have HSB:=Lib.hid hsb
  by_cases hbig:60000<sb.length
  ·have e2:Codec.outL [] false sb=true:=by unfold Codec.outL;simpa using hbig
   rw[e2]at hend;have HE:=Lib.hid hend;clear hend hoc hsb HP HP2;go_wp2_with fail;refine HE.out.mono ?_;rintro e w3 ⟨hb3,⟨_,rfl⟩ | ⟨h,_⟩⟩
   ·have HB3:=Lib.hid (HB2.out.trans (hb3.mono HB2.out.size))
    clear hb3;go_wp2;go_ret2;exact⟨HB3.out,.inr (.inl ⟨rfl,by rw[← HSB.out];exact hbig,rfl⟩)⟩
   ·cases h
  ·have e1:Codec.outB [] false sb=sb:=by unfold Codec.outB;rw[if_neg (by simpa using hbig)];rfl
   have e2:Codec.outL [] false sb=false:=by unfold Codec.outL;simpa using hbig
   rw[e1,e2]at hend;obtain⟨m,hm9⟩:∃ m,m=sb.length:=⟨_,rfl⟩;have HM:=Lib.hid hm9;have HE:=Lib.hid hend;clear hend hoc hsb HP HP2 hm9;go_wp2_with fail;refine HE.out.mono ?_;rintro e w3 ⟨hb3,⟨h,_⟩ | ⟨_,A,c,rfl,ho⟩⟩
   ·cases h
   ·have HB3:=Lib.hid (HB2.out.trans (hb3.mono HB2.out.size))
    have HO3:=Lib.hid (ho.mono HB2.out.size);rw[← HM.out]at HO3 ⊢;clear hb3 ho;go_wp2;go_ret2;refine⟨HB3.out,.inr (.inr ⟨rfl,by rw[← HSB.out];omega,A,c,?_,?_⟩)⟩
    ·rw[← HSB.out,← HM.out];rfl
    ·rw[← HSB.out,← HM.out];exact HO3.out
def ReadS (bs:List UInt8) (u:K) (er:Int):Prop:=(er=0∧bs=causB u∧RK u)∨(er=2∧u=(none_,[])∧∀ k,RK k→bs≠causB k)
theorem read_s {bs r:List UInt8} {u:K} {b:Bool} (h:Got causB RK (none_,[]) bs u r b):((!b&&r.isEmpty)=true→ReadS bs u 0)∧((!b&&r.isEmpty)=false→ReadS bs (none_,[]) 2):=by
 refine⟨fun h1=>?_,fun h1=>?_⟩
 ·cases b with
  | true=>simp at h1
  | false=>
   have hr:r=[]:=by simpa using h1
   rcases h.1 with ⟨_,e⟩ | ⟨e,_⟩
   ·exact .inl ⟨rfl,by rw[e,hr,List.append_nil],h.2.1 rfl⟩
   ·cases e
 ·refine .inr ⟨rfl,rfl,fun k hk e=>?_⟩
  obtain⟨_,e2,e3⟩:=h.back (x:=[]) pre_caus hk (by rw[List.append_nil];exact e);rw[e2,e3]at h1
  simp at h1
theorem read_any (bs:List UInt8) (n:Nat) (A:Option Addr) (c:Nat) (w:World) (hl:bs.length=n) (hn:n≤100000) (hcap:CapK bs) (hr:Rd w w.heap.size 1 A n c (u8s bs)) :
  Calls Try.prog 9 #[.slice A n c] w fun e w'=>∃ (u:K) (se sk sc:SV) (er:Int),e = .returned (.tuple #[.agg #[.slice se.A se.n se.c,.slice sk.A sk.n sk.c,.slice sc.A sc.n sc.c],.int .i64 er])∧Hid (RdO w' (fun z=>w.heap.size≤z) u.1 se sk)∧Hid (u.2.length=sc.n)∧Hid (Own w' w.heap.size 40 3 sc.A sc.n sc.c (spsC u.2))∧Hid (ReadS bs u er)∧Hid (Below w.heap.size w w'):=by
 have HCAP:=Lib.hid hcap
 have hbs:bs.length≤100000:=by omega
 obtain⟨p,hp⟩:∃ p,p=w.heap.size:=⟨_,rfl⟩;obtain⟨W,hW⟩:∃ W,W=w.alloc (.cells #[.slice none 0 0,.slice none 0 0,.slice none 0 0] 31):=⟨_,rfl⟩
 have HK:Hid (Kept [(⟨p,0,none⟩,.slice none 0 0),(⟨p,1,none⟩,.slice none 0 0),(⟨p,2,none⟩,.slice none 0 0)] w W):=by
  have h0:=Kept.nil_of (show Below w.heap.size w W by rw[hW];exact Dt.box_below _ _ _)
  refine ((h0.cons_of ?_).cons_of ?_).cons_of ?_ <;> (rw[hW,hp];go_simp)
 have HF:Hid (Free p W):=⟨by rw[hW,hp];simp,fun j=>by rw[hW,hp];go_simp⟩;have HI:=Lib.hid (newin_any bs n A c W hl (by omega) (hr.later HK.out.below))
 have HPW:Hid (w.heap.size≤p):=by unfold Hid;omega
 have hszW:W.heap.size=p+1:=by rw[hW,hp];simp
 have HSZ:=Lib.hid hszW;have Hp:=Lib.hid hp;have HW:=Lib.hid hW;clear hr hl hcap hp hW hszW;go_enter Try.func9,Try.ntmps9;go_wp2_with fail
 try rw[← HW.out]
 try rw[← Hp.out]
 refine HI.out.mono ?_;rintro e w1 ⟨a,rfl,hwa,hin,hb1⟩
 have hpa:p<a:=by have:=HSZ.out;omega
 have HK1:=Lib.hid (HK.out.later hb1);have HF1:=Lib.hid (HF.out.later hb1)
 have HO:Hid (InC w1 [(⟨p,0,none⟩,.slice none 0 0),(⟨p,1,none⟩,.slice none 0 0),(⟨p,2,none⟩,.slice none 0 0)] [p] a bs false):=by
  refine⟨hin,fun x hx=>⟨(HK1.out.2 x hx).1,(HK1.out.2 x hx).2,?_⟩,fun q hq=>?_⟩
  ·simp only[List.mem_cons,List.not_mem_nil,or_false]at hx
   rcases hx with rfl | rfl | rfl <;> (dsimp only;omega)
  ·rw[List.mem_singleton.1 hq]
   exact⟨HF1.out,by omega⟩
 clear hin HI HK HF;go_wp2_with fail;refine (getcaus_any hbs HCAP.out HO.out).mono ?_;rintro e w2 ⟨u,⟨Ae,ne,ce⟩,⟨Ak,nk,ck⟩,⟨Ca,na,ca⟩,r,b,rfl,HRT,hlc,hoc,HG,HS⟩;have hw1:p+1≤w1.heap.size:=HF1.out.1;have HT:Hid (RdO w2 (fun z=>p+1≤z) u.1 ⟨Ae,ne,ce⟩ ⟨Ak,nk,ck⟩):=RdO.mono (fun z hz _=>by omega) _ HRT.out;have HC2:Hid (Own w2 (p+1) 40 3 Ca na ca (spsC u.2)):=hoc.out.mono hw1;have HB2:Hid (Below w.heap.size w w2):=HK1.out.below.trans (gb_below HG.out.2 (by have:=HPW.out;omega) HK1.out.below.size);have hdone:=done_any HG.out.1.at_;obtain⟨s,hs⟩:∃ s,s=w2.heap.size:=⟨_,rfl⟩;obtain⟨WS,hWS⟩:∃ W,W=w2.alloc (.cells #[.slice Ae ne ce,.slice Ak nk ck,.slice Ca na ca] 31):=⟨_,rfl⟩
 have hbS:Below w2.heap.size w2 WS:=by rw[hWS];exact Dt.box_below _ _ _
 have HGS:Hid (Gt a w1 ([(⟨s,0,none⟩,.slice Ae ne ce),(⟨s,1,none⟩,.slice Ak nk ck),(⟨s,2,none⟩,.slice Ca na ca)]++[(⟨p,0,none⟩,.slice none 0 0),(⟨p,1,none⟩,.slice none 0 0),(⟨p,2,none⟩,.slice none 0 0)]) ([]++[p]) r b WS):=by
  refine HG.out.add hbS ?_ (by simp);intro x hx;simp only[List.mem_cons,List.not_mem_nil,or_false]at hx
  rcases hx with rfl | rfl | rfl <;> exact⟨by dsimp only;omega,by rw[hWS];simp <;> omega,by rw[hWS,hs];go_simp⟩
 have hps:p<s:=by have h1:=HG.out.f0.1;omega
 have hsp:¬s=p:=by omega
 have hpsn:¬p=s:=by omega
 have HT9:Hid (RdO WS (fun z=>p+1≤z) u.1 ⟨Ae,ne,ce⟩ ⟨Ak,nk,ck⟩):=HT.out.later hbS;clear HT;have HT:=Lib.hid HT9.out;clear HT9;have HC29:Hid (Own WS (p+1) 40 3 Ca na ca (spsC u.2)):=own_later HC2.out hbS;clear HC2;have HC2:=Lib.hid HC29.out;clear HC29;have HBS:Hid (Below w.heap.size w WS):=HB2.out.trans (hbS.mono HB2.out.size);have hdone:=Lib.hid (done_any HGS.out.1.at_);have HWS:=Lib.hid hWS;have Hs:=Lib.hid hs;obtain⟨ok,hok⟩:∃ k,(!b&&r.isEmpty)=k:=⟨_,rfl⟩;have HRS:=Lib.hid (read_s HS.out);rw[hok]at hdone HRS;clear hs hWS hbS HG hok HB2 HS hoc HRT hb1;go_wp2_with fail;rw[← HWS.out]
 try rw[← Hs.out]
 refine hdone.out.mono ?_;rintro e w3 ⟨rfl,rfl⟩;clear hdone
 cases ok with
 | true=>
  have HS1:Hid (ReadS bs u 0):=HRS.out.1 rfl;have k0:=HGS.out.cell (p:=⟨p,0,none⟩) (v:=.slice none 0 0) (by simp);have k1:=HGS.out.cell (p:=⟨p,1,none⟩) (v:=.slice none 0 0) (by simp);have k2:=HGS.out.cell (p:=⟨p,2,none⟩) (v:=.slice none 0 0) (by simp);have j0:=HGS.out.cell (p:=⟨s,0,none⟩) (v:=.slice Ae ne ce) (by simp);have j1:=HGS.out.cell (p:=⟨s,1,none⟩) (v:=.slice Ak nk ck) (by simp);have j2:=HGS.out.cell (p:=⟨s,2,none⟩) (v:=.slice Ca na ca) (by simp);have f0:=(HGS.out.1.free p (by simp)).1.2 0;have f1:=(HGS.out.1.free p (by simp)).1.2 1;have f2:=(HGS.out.1.free p (by simp)).1.2 2;obtain⟨W9,hW9⟩:∃ W,W=(((WS.setCell ⟨p,0,none⟩ (.slice Ae ne ce)).setCell ⟨p,1,none⟩ (.slice Ak nk ck)).setCell ⟨p,2,none⟩ (.slice Ca na ca)):=⟨_,rfl⟩
  have HB9:Hid (Below w.heap.size w W9):=by unfold Hid;rw[hW9];exact ((HBS.out.setCell (p:=⟨p,0,none⟩) HPW.out _).setCell (p:=⟨p,1,none⟩) HPW.out _).setCell (p:=⟨p,2,none⟩) HPW.out _
  have HTW:Hid (RdO W9 (fun z=>w.heap.size≤z) u.1 ⟨Ae,ne,ce⟩ ⟨Ak,nk,ck⟩):=by
   refine RdO.mono (fun z hz _=>by have:=HPW.out;omega) _ (RdO.keep (ok:=fun z=>p+1≤z) (by rw[hW9];simp[World.setCell]) (fun z hz _=>?_) _ HT.out);rw[hW9];exact (((Below.heap_setCell _ ⟨p,2,none⟩ _ z (by dsimp only;omega)).trans (Below.heap_setCell _ ⟨p,1,none⟩ _ z (by dsimp only;omega))).trans (Below.heap_setCell _ ⟨p,0,none⟩ _ z (by dsimp only;omega)))
  have HC2W:Hid (Own W9 w.heap.size 40 3 Ca na ca (spsC u.2)):=by
   unfold Hid;rw[hW9];exact ((((HC2.out.set_below (a:=⟨p,0,none⟩) (by dsimp only;omega) _).set_below (a:=⟨p,1,none⟩) (by dsimp only;omega) _).set_below (a:=⟨p,2,none⟩) (by dsimp only;omega) _)).mono (by have:=HPW.out;omega)
  have l0:W9.cell? ⟨p,0,none⟩=some (.slice Ae ne ce):=by rw[hW9];go_simp
  have l1:W9.cell? ⟨p,1,none⟩=some (.slice Ak nk ck):=by rw[hW9];go_simp
  have l2:W9.cell? ⟨p,2,none⟩=some (.slice Ca na ca):=by rw[hW9];go_simp
  have HW9:=Lib.hid hW9;clear hW9;go_wp2;rw[← HW9.out];exact bodyPost_ret (v:=.tuple #[.agg #[.slice Ae ne ce,.slice Ak nk ck,.slice Ca na ca],.int .i64 0]) (by simp[results,Try.results9,go_sem,l0,l1,l2]) rfl ⟨u,⟨Ae,ne,ce⟩,⟨Ak,nk,ck⟩,⟨Ca,na,ca⟩,0,rfl,HTW,hlc,HC2W,HS1,HB9⟩
 | false=>
  have HS1:Hid (ReadS bs (none_,[]) 2):=HRS.out.2 rfl;have k0:=HGS.out.cell (p:=⟨p,0,none⟩) (v:=.slice none 0 0) (by simp);have k1:=HGS.out.cell (p:=⟨p,1,none⟩) (v:=.slice none 0 0) (by simp);have k2:=HGS.out.cell (p:=⟨p,2,none⟩) (v:=.slice none 0 0) (by simp);have j0:=HGS.out.cell (p:=⟨s,0,none⟩) (v:=.slice Ae ne ce) (by simp);have j1:=HGS.out.cell (p:=⟨s,1,none⟩) (v:=.slice Ak nk ck) (by simp);have j2:=HGS.out.cell (p:=⟨s,2,none⟩) (v:=.slice Ca na ca) (by simp);have f0:=(HGS.out.1.free p (by simp)).1.2 0;have f1:=(HGS.out.1.free p (by simp)).1.2 1;have f2:=(HGS.out.1.free p (by simp)).1.2 2;obtain⟨W9,hW9⟩:∃ W,W=(((WS.setCell ⟨p,0,none⟩ (.slice none 0 0)).setCell ⟨p,1,none⟩ (.slice none 0 0)).setCell ⟨p,2,none⟩ (.slice none 0 0)):=⟨_,rfl⟩
  have HB9:Hid (Below w.heap.size w W9):=by unfold Hid;rw[hW9];exact ((HBS.out.setCell (p:=⟨p,0,none⟩) HPW.out _).setCell (p:=⟨p,1,none⟩) HPW.out _).setCell (p:=⟨p,2,none⟩) HPW.out _
  have l0:W9.cell? ⟨p,0,none⟩=some (.slice none 0 0):=by rw[hW9];go_simp
  have l1:W9.cell? ⟨p,1,none⟩=some (.slice none 0 0):=by rw[hW9];go_simp
  have l2:W9.cell? ⟨p,2,none⟩=some (.slice none 0 0):=by rw[hW9];go_simp
  have HW9:=Lib.hid hW9;clear hW9;go_wp2;rw[← HW9.out];exact bodyPost_ret (v:=.tuple #[.agg #[.slice none 0 0,.slice none 0 0,.slice none 0 0],.int .i64 2]) (by simp[results,Try.results9,go_sem,l0,l1,l2]) rfl ⟨(none_,[]),⟨none,0,0⟩,⟨none,0,0⟩,⟨none,0,0⟩,2,rfl,RdO.none _ _ _ _ _ _,rfl,⟨World.ownsRow_nil _ _ _ _,by simp[spsC]⟩,HS1,HB9⟩
end Pk
end Go.Proofs.Ytcbpgemiffmieaa
namespace Go.Proofs.Ytcbpgemiffmieaa
open Go.ChangeShapes Go.WideShapes Go.ChangeAt Go.RowKit
namespace Cs
open Tr Cx Sp Rw Classical
end Cs
end Go.Proofs.Ytcbpgemiffmieaa
namespace Go.Proofs.Ytcbpgemiffmieaa
open Go.ChangeShapes Go.WideShapes Go.ChangeAt Go.RowKit
namespace Cs
open Tr Cx Sp Rw Classical
set_option maxRecDepth 100000 in
set_option maxHeartbeats 4000000 in
theorem refsameK_any (t u:T) (cs ds:List S3) (Ae Ak Ca Be Bk Cb:Option Addr) (ne nk ce ck na ca9 me mk de dk nb cb9:Nat) (w:World) (z:Bool) (hz:decide ((t,cs)=(u,ds))=z) (hn:nodes t≤1000000) (hl:cs.length=na) (hna:na≤1000000) (hr:RdT w w.heap.size t ⟨Ae,ne,ce⟩ ⟨Ak,nk,ck⟩) (hc:Rd w w.heap.size 3 Ca na ca9 (spsC cs)) (hl2:ds.length=nb) (hr2:RdT w w.heap.size u ⟨Be,me,de⟩ ⟨Bk,mk,dk⟩) (hc2:Rd w w.heap.size 3 Cb nb cb9 (spsC ds)) :
  Calls Try.prog 10 #[.agg #[.slice Ae ne ce,.slice Ak nk ck,.slice Ca na ca9],.agg #[.slice Be me de,.slice Bk mk dk,.slice Cb nb cb9]] w fun e w'=>e = .returned (.bool z)∧Below w.heap.size w w':=by
 have HZ:=Lib.hid hz;have HA:=Lib.hid (And.intro hl (And.intro hc (And.intro hl2 hc2)));clear hz hl hc hl2 hc2;obtain⟨W,p,q,HW,HP,HQ,HKc⟩:=boxC2 w Ae Ak Be Bk Ca Cb ne nk ce ck me mk de dk na ca9 nb cb9;obtain⟨c0,c1,c2,c3,c4,c5,-⟩:=HKc.out.cj;obtain⟨x,hx⟩:∃ x,eqB t u=x:=⟨_,rfl⟩;have HX:=Lib.hid hx;have HST:=Lib.hid (refsameT_any t u Ae Ak ne nk ce ck Be Bk me mk de dk W hn (RdT.more HKc.out.below.size _ (RdT.below hr HKc.out.below)) (RdT.more HKc.out.below.size _ (RdT.below hr2 HKc.out.below)));rw[hx]at HST;clear hr hr2 hx;go_enter Try.func10,Try.ntmps10;go_wp2_with fail;rw[← HW.out,← HP.out]
 try rw[← HQ.out]
 refine HST.out.mono ?_;rintro e v2 ⟨rfl,hb9⟩;have HKc:=Lib.hid (HKc.out.later hb9);clear hb9 c0 c1 c2 c3 c4 c5
 cases x with
 | false=>
  obtain rfl:z=false:=by
   rw[← HZ.out]
   exact decide_eq_false fun h=>by rw[eqB_yes (congrArg Prod.fst h)]at HX;cases HX.out
  go_wp2_with fail;go_ret;exact⟨by first | rfl | (rw[HZ.out];rfl) | rw[HZ.out],HKc.out.below⟩
 | true=>
  have htu:t=u:=eqB_iff.1 HX.out;obtain⟨c0,c1,c2,c3,c4,c5,-⟩:=HKc.out.cj
  have HSC:=Lib.hid (refsameC_any cs ds na nb Ca Cb ca9 cb9 v2 HA.out.1 HA.out.2.2.1 hna ((HA.out.2.1.below HKc.out.below).more HKc.out.below.size) ((HA.out.2.2.2.below HKc.out.below).more HKc.out.below.size) z (by
   rw[← HZ.out]
   by_cases h:cs=ds
   ·rw[decide_eq_true h,decide_eq_true (by rw[htu,h])]
   ·rw[decide_eq_false h,decide_eq_false fun h2=>h (congrArg Prod.snd h2)]))
  clear htu;go_wp2_with fail;refine HSC.out.mono ?_;rintro e v3 ⟨rfl,hb9⟩;have HKc:=Lib.hid (HKc.out.later hb9);clear hb9 c0 c1 c2 c3 c4 c5;go_wp2_with fail;go_ret;exact⟨by first | rfl | (rw[HZ.out];rfl) | rw[HZ.out],HKc.out.below⟩
structure CP where
 k:K
 e:SV
 d:SV
 c:SV
structure RdP (w:World) (p:CP):Prop where
 tree:RdT w w.heap.size p.k.1 p.e p.d
 len:p.k.2.length=p.c.n
 ctx:Rd w w.heap.size 3 p.c.A p.c.n p.c.c (spsC p.k.2)
theorem RdP.later {w w':World} {p:CP} (h:RdP w p) (hb:Below w.heap.size w w'):RdP w' p:=⟨RdT.later h.tree hb,h.len,h.ctx.later hb⟩
instance {p:CP} {v v':World} : Las v v' (RdP v p) (RdP v' p):=⟨fun h hb=>h.later hb⟩
def CellsP (w:World) (g:Nat) (ps:List CP):Prop:=∀ (k:Nat) (h:k<ps.length),w.cell? ⟨g,k*3,none⟩=some (.slice ps[k].e.A ps[k].e.n ps[k].e.c)∧w.cell? ⟨g,k*3+1,none⟩=some (.slice ps[k].d.A ps[k].d.n ps[k].d.c)∧w.cell? ⟨g,k*3+2,none⟩=some (.slice ps[k].c.A ps[k].c.n ps[k].c.c)
theorem CellsP.later {w w':World} {g:Nat} {ps:List CP} (h:CellsP w g ps) (hb:Below w.heap.size w w'):CellsP w' g ps:=fun k hk=>by
 obtain⟨h1,h2,h3⟩:=h k hk;have hg:=World.block_lt_of_cell? w _ h1;exact⟨(hb.cell (p:=⟨g,k*3,none⟩) hg).trans h1,(hb.cell (p:=⟨g,k*3+1,none⟩) hg).trans h2,(hb.cell (p:=⟨g,k*3+2,none⟩) hg).trans h3⟩
end Cs
end Go.Proofs.Ytcbpgemiffmieaa
set_option maxRecDepth 100000
set_option maxHeartbeats 4000000
namespace Go.Proofs.Ytcbpgemiffmieaa
open Go.ChangeShapes Go.WideShapes Go.ChangeAt Go.RowKit
namespace Pk
open Tr Cx Cs Sp Rw Codec
def knE:E:=⟨1,1,⟨#[97]⟩,3⟩
def knK:K:=(oneT knE,oneC 1 1)
theorem knE_right:RightE knE:=⟨by decide,by decide,by decide,by decide⟩
theorem knK_right:RK knK:=right_one (right_oneT knE_right) (right_oneC (by decide)) (by rw[has_oneC];decide)
theorem knK_bytes:causB knK=[2,2,2,2,97,6,0,2,2,2,2]:=by
 have n0:numB 0=[0]:=by show sev (foldN 0)=_;rw[show foldN 0=0 from rfl,sev_lt (by omega)];rfl
 have n1:numB 1=[2]:=by show sev (foldN 1)=_;rw[show foldN 1=2 from rfl,sev_lt (by omega)];rfl
 have n3:numB 3=[6]:=by show sev (foldN 3)=_;rw[show foldN 3=6 from rfl,sev_lt (by omega)];rfl
 have t1:txtB ⟨#[97]⟩=[2,97]:=by
  unfold txtB;rw[show (((⟨#[97]⟩:ByteArray).size:Nat):Int)=1 from rfl,n1];rfl
 unfold causB knK oneT oneC;dsimp only;rw[treeB_mk];unfold listB ctxB listB;simp only[List.length_cons,List.length_nil,List.flatMap_cons,List.flatMap_nil,List.append_nil];unfold entB spB knE;dsimp only;rw[show (((0:Nat):Int))=0 from rfl,show ((((0:Nat)+1:Nat)):Int)=1 from rfl,n0,n1,n3,t1];rfl
theorem known_any (w:World) :
  Calls Try.prog 8 #[] w fun e w'=>∃ (se sc:SV),e = .returned (.agg #[.slice se.A se.n se.c,.slice none 0 0,.slice sc.A sc.n sc.c])∧Hid (RdP w' ⟨knK,se,⟨none,0,0⟩,sc⟩)∧Below w.heap.size w w':=by
 obtain⟨W,hW⟩:∃ W,W=((w.alloc (.cells #[.slice (some ⟨w.heap.size+1,0,none⟩) 1 1,.slice none 0 0,.slice (some ⟨w.heap.size+1+1,0,none⟩) 1 1] 31)).alloc (.cells #[.int .i64 1,.int .i64 1,.string ⟨#[97]⟩,.int .i64 3] 37)).alloc (.cells #[.int .i64 1,.int .i64 1,.int .i64 1] 40):=⟨_,rfl⟩
 have HB:Hid (Below w.heap.size w W):=by
  unfold Hid;rw[hW];exact (((Below.refl _ _).alloc (Nat.le_refl _) _).alloc (by simp) _).alloc (by simp;omega) _
 have l0:W.cell? ⟨w.heap.size,0,none⟩=some (.slice (some ⟨w.heap.size+1,0,none⟩) 1 1):=by rw[hW];go_simp
 have l1:W.cell? ⟨w.heap.size,1,none⟩=some (.slice none 0 0):=by rw[hW];go_simp
 have l2:W.cell? ⟨w.heap.size,2,none⟩=some (.slice (some ⟨w.heap.size+1+1,0,none⟩) 1 1):=by rw[hW];go_simp
 have hsz:W.heap.size=w.heap.size+3:=by rw[hW];simp
 have HR:Hid (RdP W ⟨knK,⟨some ⟨w.heap.size+1,0,none⟩,1,1⟩,⟨none,0,0⟩,⟨some ⟨w.heap.size+1+1,0,none⟩,1,1⟩⟩):=by
  refine⟨?_,rfl,?_⟩
  ·show RdT W W.heap.size (.mk [knE] []) _ _
   rw[rdT_mk];refine⟨rfl,⟨rfl,Nat.le_refl _,fun u hu=>?_,fun _=>⟨_,_,rfl,by omega,fun j u hu=>?_⟩⟩,rfl,[],Rd.nil _,fun i hi=>by simp at hi⟩
   ·simp[entsC,entC]at hu
    rcases hu with rfl | rfl | rfl | rfl <;> rfl
   ·have e0:W.cell? ⟨w.heap.size+1,0+0,none⟩=some (.int .i64 1):=by rw[hW];go_simp
    have e1:W.cell? ⟨w.heap.size+1,0+1,none⟩=some (.int .i64 1):=by rw[hW];go_simp
    have e2:W.cell? ⟨w.heap.size+1,0+2,none⟩=some (.string ⟨#[97]⟩):=by rw[hW];go_simp
    have e3:W.cell? ⟨w.heap.size+1,0+3,none⟩=some (.int .i64 3):=by rw[hW];go_simp
    match j,hu with
    | 0,hu=>injection hu with hu;rw[← hu];exact e0
    | 1,hu=>injection hu with hu;rw[← hu];exact e1
    | 2,hu=>injection hu with hu;rw[← hu];exact e2
    | 3,hu=>injection hu with hu;rw[← hu];exact e3
    | j+4,hu=>cases hu
  ·refine⟨rfl,Nat.le_refl _,fun u hu=>?_,fun _=>⟨_,_,rfl,by omega,fun j u hu=>?_⟩⟩
   ·simp[spsC,spC,knK,oneC]at hu
    rcases hu with rfl | rfl | rfl <;> rfl
   ·have e0:W.cell? ⟨w.heap.size+1+1,0+0,none⟩=some (.int .i64 1):=by rw[hW];go_simp
    have e1:W.cell? ⟨w.heap.size+1+1,0+1,none⟩=some (.int .i64 1):=by rw[hW];go_simp
    have e2:W.cell? ⟨w.heap.size+1+1,0+2,none⟩=some (.int .i64 1):=by rw[hW];go_simp
    match j,hu with
    | 0,hu=>injection hu with hu;rw[← hu];exact e0
    | 1,hu=>injection hu with hu;rw[← hu];exact e1
    | 2,hu=>injection hu with hu;rw[← hu];exact e2
    | j+3,hu=>cases hu
 have HW:=Lib.hid hW;clear hW hsz;go_enter Try.func8,Try.ntmps8;go_wp2;rw[← HW.out];exact bodyPost_ret (v:=.agg #[.slice (some ⟨w.heap.size+1,0,none⟩) 1 1,.slice none 0 0,.slice (some ⟨w.heap.size+1+1,0,none⟩) 1 1]) (by simp[results,Try.results8,go_sem,l0,l1,l2]) rfl ⟨⟨_,_,_⟩,⟨_,_,_⟩,rfl,HR,HB.out⟩
theorem bytes_known (w:World) (se sc:SV) (hr:RdP w ⟨knK,se,⟨none,0,0⟩,sc⟩) :
  Calls Try.prog 7 #[.agg #[.slice se.A se.n se.c,.slice none 0 0,.slice sc.A sc.n sc.c]] w fun e w'=>∃ A c,e = .returned (.tuple #[.slice A 11 c,.int .i64 0])∧Hid (Own w' w.heap.size 5 1 A 11 c (u8s [2,2,2,2,97,6,0,2,2,2,2]))∧Below w.heap.size w w':=by
 have hk:rightKB knK=true:=rightKB_iff.2 knK_right;have hl1:(oneC 1 1).length=sc.n:=hr.len;refine (bytes_any (oneT knE) (oneC 1 1) se.A none sc.A se.n 0 se.c 0 sc.n sc.c w true hk (by rw[nodes_one];omega) hl1 (by rw[← hl1];decide) hr.tree hr.ctx).mono fun e w' h=>?_;obtain⟨hb,⟨h,_⟩ | ⟨_,h,_⟩ | ⟨_,_,A,c,he,ho⟩⟩:=h
 ·cases h
 ·rw[show causB (oneT knE,oneC 1 1)=_ from knK_bytes]at h
  simp at h
 ·rw[show causB (oneT knE,oneC 1 1)=_ from knK_bytes]at he ho
  exact⟨A,c,he,ho,hb⟩
theorem read_known (w:World) (A:Option Addr) (c:Nat) (hr:Rd w w.heap.size 1 A 11 c (u8s [2,2,2,2,97,6,0,2,2,2,2])) :
  Calls Try.prog 9 #[.slice A 11 c] w fun e w'=>∃ (se sk sc:SV),e = .returned (.tuple #[.agg #[.slice se.A se.n se.c,.slice sk.A sk.n sk.c,.slice sc.A sc.n sc.c],.int .i64 0])∧Hid (RdP w' ⟨knK,se,sk,sc⟩)∧Below w.heap.size w w':=by
 refine (read_any _ 11 A c w rfl (by omega) (cap_few (by simp)) hr).mono fun e w' h=>?_;obtain⟨u,se,sk,sc,er,he,h1,h2,h3,h4,h5⟩:=h
 rcases h4.out with ⟨e1,e2,_⟩ | ⟨_,_,hno⟩
 ·have e3:u=knK:=(caus_unlike u knK).1 (by rw[knK_bytes];exact e2.symm)
  subst e3;rw[e1]at he;exact⟨se,sk,sc,he,⟨RdO.rd _ h1.out,h2.out,h3.out.rd⟩,h5.out⟩
 ·exact absurd knK_bytes.symm (hno knK knK_right)
theorem awake16 (w:World):Calls Try.prog 4 #[] w fun e w'=>e = .returned (.bool true)∧Below w.heap.size w w':=by
 have hq:(strOf [2,2,2,2,97,6,0,2,2,2,2]).toList=([2,2,2,2,97,6,0,2,2,2,2]:List UInt8):=by decide +kernel
 have HKc:Hid (Kept [] w w):=Kept.nil_of (Below.refl _ _);go_enter Try.func4,Try.ntmps4;go_wp2_with fail;refine (known_any w).mono ?_;rintro e v1 ⟨⟨kA,kn,kc⟩,⟨kB,km,kd⟩,rfl,hr9,hb9⟩;have HKc:=Lib.hid (HKc.out.later hb9);clear hb9;have RK1:=Lib.hid hr9.out;clear hr9;go_wp2_with fail;refine (bytes_known v1 ⟨kA,kn,kc⟩ ⟨kB,km,kd⟩ RK1.out).mono ?_;rintro e v2 ⟨A,c,rfl,ho9,hb9⟩;have HKc:=Lib.hid (HKc.out.later hb9);have RK1:=Lib.hid (RK1.out.later hb9);clear hb9;have RB:=Lib.hid ho9.out.rd;clear ho9;go_wp2_with fail;refine (read_known v2 A c RB.out).mono ?_;rintro e v3 ⟨⟨xA,xn,xc⟩,⟨xB,xm,xd⟩,⟨xC,xo,xe⟩,rfl,hr9,hb9⟩;have HKc:=Lib.hid (HKc.out.later hb9);have RK1:=Lib.hid (RK1.out.later hb9);have RB:=Lib.hid (RB.out.later hb9);clear hb9;have RX:=Lib.hid hr9.out
 clear hr9;obtain⟨g,hg⟩:∃ g,g=v3.heap.size:=⟨_,rfl⟩;obtain⟨v4,hv4⟩:∃ W,W=v3.alloc (.cells #[.slice xA xn xc,.slice xB xm xd,.slice xC xo xe] 31):=⟨_,rfl⟩
 have hb9:Below v3.heap.size v3 v4:=by rw[hv4];exact Dt.box_below _ _ _
 have b0:v4.cell? ⟨g,0,none⟩=some (.slice xA xn xc):=by rw[hv4,hg];go_simp
 have b1:v4.cell? ⟨g,1,none⟩=some (.slice xB xm xd):=by rw[hv4,hg];go_simp
 have b2:v4.cell? ⟨g,2,none⟩=some (.slice xC xo xe):=by rw[hv4,hg];go_simp
 have HKc:=Lib.hid (HKc.out.later hb9);have RK1:=Lib.hid (RK1.out.later hb9);have RB:=Lib.hid (RB.out.later hb9);have RX:=Lib.hid (RX.out.later hb9);clear hb9;have HKc:=Lib.hid (((HKc.out.cons_of b2).cons_of b1).cons_of b0);have Hg:=Lib.hid hg;have Hv4:=Lib.hid hv4;clear hg hv4 b0 b1 b2;obtain⟨c0,c1,c2,-⟩:=HKc.out.cj;rw[Hv4.out]at c0 c1 c2;rw[Hg.out]at c0 c1 c2;go_wp2_with fail;rw[← Hg.out,← Hv4.out];clear c0 c1 c2;refine wp_region_held_drew (S:=Conj _) (by kernel_rfl) HKc.out.drew.cj (fun hHeld=>?_);obtain⟨v5,hv5⟩:∃ v,v=v4.drew:=⟨_,rfl⟩
 have hb9:Below v4.heap.size v4 v5:=by rw[hv5];exact (Below.refl _ _).drew
 have HKc:=Lib.hid (HKc.out.later hb9);have RK1:=Lib.hid (RK1.out.later hb9);have RB:=Lib.hid (RB.out.later hb9);have RX:=Lib.hid (RX.out.later hb9);clear hb9;rw[← hv5]at hHeld ⊢;clear hv5;refine Tk 0 15 ?_;refine Tk 1 16 ?_;refine Tk 2 17 ?_;refine Tk 3 18 ?_;refine Tk 4 19 ?_;refine Tk 5 20 ?_;refine Tk 6 21 ?_;refine Tk 7 22 ?_;refine Tc 8 (fun K hK=>?_);have hcv8:=run_str (P:=Try.prog) v5 32 9 5 Try.underlying32 Try.underlying5 Try.underlying9 RB.out;go_simp;refine hK.out _ _ ?_ (fun hHeld2=>?_)
 ·exact HKc.out.cj
 clear hK K hHeld hcv8;have hHeld:=hHeld2;clear hHeld2
 try simp only[Act.put,List.setIfInBounds_toArray,List.set_cons_zero,List.set_cons_succ]
 refine Tk 9 24 ?_;refine Tk 10 25 ?_;refine Tk 11 26 ?_;refine Tk 12 27 ?_;refine Tc 13 (fun K hK=>?_);go_simp;(go_at_call 8;refine (known_any v5).mono ?_);rintro e v6 ⟨⟨kX,km1,kx1⟩,⟨kY,km2,kx2⟩,rfl,hr9,hb9⟩;have HKc:=Lib.hid (HKc.out.later hb9);have RK1:=Lib.hid (RK1.out.later hb9);have RB:=Lib.hid (RB.out.later hb9);have RX:=Lib.hid (RX.out.later hb9);clear hb9;have RK2:=Lib.hid hr9.out;clear hr9;refine hK.out _ _ ?_ (fun hHeld2=>?_)
 ·exact HKc.out.cj
 clear hK K hHeld;have hHeld:=hHeld2;clear hHeld2
 try simp only[]
 refine Tc 14 (fun K hK=>?_);go_simp;(go_at_call 10;refine (refsameK_any (oneT knE) (oneT knE) (oneC 1 1) (oneC 1 1) xA xB xC kX none kY xn xm xc xd xo xe km1 0 kx1 0 km2 kx2 v6 true (by simp) (by rw[nodes_one];omega) RX.out.len (by have h:(oneC 1 1).length=xo:=RX.out.len;rw[← h];decide) RX.out.tree RX.out.ctx RK2.out.len RK2.out.tree RK2.out.ctx).mono ?_);rintro e v7 ⟨rfl,hb9⟩;have HKc:=Lib.hid (HKc.out.later hb9);have RK1:=Lib.hid (RK1.out.later hb9);have RB:=Lib.hid (RB.out.later hb9);have RX:=Lib.hid (RX.out.later hb9);have RK2:=Lib.hid (RK2.out.later hb9);clear hb9;clear hHeld;refine Th hK ?_ (fun hHeld=>?_)
 ·exact HKc.out.cj
 clear hK K;refine Tk 15 30 ?_;refine Tk 16 0 ?_;refine wpAnyH_done (by kernel_rfl) ?_ _;clear hHeld;go_wp2_with fail;go_ret;exact⟨by first | rfl | simp,HKc.out.below⟩
end Pk
end Go.Proofs.Ytcbpgemiffmieaa
