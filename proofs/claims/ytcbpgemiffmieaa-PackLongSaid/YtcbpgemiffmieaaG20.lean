/- Texts of the lower layers, and of layer 9, put together. -/
import Derived.Test.YtcbpgemiffmieaaTreeLeaves
import Derived.Test.YtcbpgemiffmieaaG00
import Derived.Test.YtcbpgemiffmieaaG10
import Derived.Test.YtcbpgemiffmieaaCtx1
import Derived.Test.YtcbpgemiffmieaaTreeRight
import Derived.Test.YtcbpgemiffmieaaCauHas
import Derived.Test.YtcbpgemiffmieaaTreeRefRight
import Derived.Test.YtcbpgemiffmieaaG01
namespace Go.Proofs.Ytcbpgemiffmieaa
open Go.ChangeShapes Go.WideShapes Go.ChangeAt Go.RowKit
namespace Tr
open Sp Rw
end Tr
end Go.Proofs.Ytcbpgemiffmieaa
set_option maxRecDepth 100000
set_option maxHeartbeats 4000000
namespace Go.Proofs.Ytcbpgemiffmieaa
open Go.ChangeShapes Go.WideShapes Go.ChangeAt Go.RowKit
namespace Pk
open Tr Cx Sp Rw Codec
theorem gcenter_any {w:World} {l:List (Addr×Value)} {F:List Nat} {a:Nat} {bs:List UInt8} {bad:Bool} (h:InC w l F a bs bad) :
  Calls Try.prog 62 #[.pointer (some ⟨a,0,none⟩)] w fun e w'=>∃ (x:Int) (r:List UInt8) (b:Bool),e = .returned (.int .i64 x)∧Hid (Gt a w l F r b w')∧Hid (One numB (NumR 3) bs x r b):=by
 have HO:=Lib.hid h;clear h;go_enter Try.func62,Try.ntmps62;go_wp2_with fail;refine (gnum_any 3 (by omega) (by omega) HO.out).mono ?_;rintro e w1 ⟨x,r,b,rfl,HG,H1⟩;go_wp2;go_ret;exact⟨x,r,b,rfl,HG,H1⟩
theorem gtxt_any {w:World} {l:List (Addr×Value)} {F:List Nat} {a:Nat} {bs:List UInt8} {bad:Bool} (h:InC w l F a bs bad) :
  Calls Try.prog 59 #[.pointer (some ⟨a,0,none⟩)] w fun e w'=>∃ (x:ByteArray) (r:List UInt8) (b:Bool),e = .returned (.string x)∧Hid (Gt a w l F r b w')∧Hid (One txtB (TxtR 30) bs x r b):=by
 have HO:=Lib.hid h;clear h;go_enter Try.func59,Try.ntmps59;go_wp2_with fail;refine (gtext_any 30 (by omega) HO.out).mono ?_;rintro e w1 ⟨x,r,b,rfl,HG,H1⟩;go_wp2;go_ret;exact⟨x,r,b,rfl,HG,H1⟩
theorem gspan_any {w:World} {l:List (Addr×Value)} {F:List Nat} {a:Nat} {bs:List UInt8} {bad:Bool} (h:InC w l F a bs bad) :
  Calls Try.prog 42 #[.pointer (some ⟨a,0,none⟩)] w fun e w'=>∃ (x:S3) (r:List UInt8) (b:Bool),e = .returned (.agg #[.int .i64 x.1,.int .i64 x.2.1,.int .i64 x.2.2])∧Hid (Gt a w l F r b w')∧Hid (One spB SpanR bs x r b):=by
 have HO:=Lib.hid h;have HG0:=Lib.hid (Gt.refl h);clear h;obtain⟨p,hp⟩:∃ p,p=w.heap.size:=⟨_,rfl⟩;obtain⟨W,hW⟩:∃ W,W=w.alloc (.cells #[.int .i64 0,.int .i64 0,.int .i64 0] 40):=⟨_,rfl⟩
 have HG1:Hid (Gt a w ([(⟨p,0,none⟩,.int .i64 0),(⟨p,1,none⟩,.int .i64 0),(⟨p,2,none⟩,.int .i64 0)]++l) ([p]++F) bs bad W):=by
  refine HG0.out.add (by rw[hW];exact Dt.box_below _ _ _) ?_ ?_
  ·intro x hx
   simp only[List.mem_cons,List.not_mem_nil,or_false]at hx
   rcases hx with rfl | rfl | rfl <;> exact⟨by dsimp only;omega,by rw[hW];simp <;> omega,by rw[hW,hp];go_simp⟩
  ·intro q hq
   simp only[List.mem_cons,List.not_mem_nil,or_false]at hq;subst hq;exact⟨by omega,by rw[hW,hp];simp,fun j=>by rw[hW,hp];go_simp⟩
 have HPW:Hid (w.heap.size≤p):=by unfold Hid;omega
 have HW:=Lib.hid hW;have Hp:=Lib.hid hp;clear hp hW HG0;go_enter Try.func42,Try.ntmps42;go_wp2_with fail
 try rw[← HW.out]
 try rw[← Hp.out]
 refine (gcenter_any HG1.out.1).mono ?_;rintro e w1 ⟨x0,r1,b1,rfl,HG,H1⟩;have HG2:=Lib.hid (HG1.out.trans HG.out);clear HG HG1;go_wp2_with fail;refine (gnum_any 1099511627776 (by omega) (by omega) HG2.out.1).mono ?_;rintro e w2 ⟨x1,r2,b2,rfl,HG,H2⟩;have HG3:=Lib.hid (HG2.out.trans HG.out);clear HG HG2;go_wp2_with fail;refine (gnum_any 1099511627776 (by omega) (by omega) HG3.out.1).mono ?_;rintro e w3 ⟨x2,r3,b3,rfl,HG,H3⟩;have HG4:=Lib.hid (HG3.out.trans HG.out);clear HG HG3;have HS:=Lib.hid (span_one H1.out H2.out H3.out);have k0:=HG4.out.c0;have k1:=HG4.out.c1;have k2:=HG4.out.c2;have f0:=HG4.out.f0.2 0;have f1:=HG4.out.f0.2 1;have f2:=HG4.out.f0.2 2;obtain⟨W9,hW9⟩:∃ W,W=(((w3.setCell ⟨p,0,none⟩ (.int .i64 x0)).setCell ⟨p,1,none⟩ (.int .i64 x1)).setCell ⟨p,2,none⟩ (.int .i64 x2)):=⟨_,rfl⟩
 have HB9:Hid (Below w.heap.size w3 W9):=by unfold Hid;rw[hW9];exact ((((Below.refl w.heap.size w3).setCell (p:=⟨p,0,none⟩) HPW.out _).setCell (p:=⟨p,1,none⟩) HPW.out _).setCell (p:=⟨p,2,none⟩) HPW.out _)
 have HG9:Hid (Gt a w l F r3 b3 W9):=(HG4.out.sub (l2:=l) (F2:=F) (fun x hx=>by simp[hx]) (fun x hx=>by simp[hx])).low HO.out HB9.out
 have l0:W9.cell? ⟨p,0,none⟩=some (.int .i64 x0):=by rw[hW9];go_simp
 have l1:W9.cell? ⟨p,1,none⟩=some (.int .i64 x1):=by rw[hW9];go_simp
 have l2:W9.cell? ⟨p,2,none⟩=some (.int .i64 x2):=by rw[hW9];go_simp
 have HW9:=Lib.hid hW9;clear hW9;go_wp2;rw[← HW9.out];exact bodyPost_ret (v:=.agg #[.int .i64 x0,.int .i64 x1,.int .i64 x2]) (by simp[results,Try.results42,go_sem,l0,l1,l2]) rfl ⟨(x0,x1,x2),r3,b3,rfl,HG9,HS⟩
end Pk
end Go.Proofs.Ytcbpgemiffmieaa
namespace Go.Proofs.Ytcbpgemiffmieaa
open Go.ChangeShapes Go.WideShapes Go.ChangeAt Go.RowKit
namespace Pk
open Tr Cx Sp Rw Codec
set_option maxRecDepth 100000 in
set_option maxHeartbeats 4000000 in
theorem gentry_any {w:World} {l:List (Addr×Value)} {F:List Nat} {a:Nat} {bs:List UInt8} {bad:Bool} (h:InC w l F a bs bad) :
  Calls Try.prog 56 #[.pointer (some ⟨a,0,none⟩)] w fun e w'=>∃ (x:E) (r:List UInt8) (b:Bool),e = .returned (.agg #[.int .i64 x.a,.int .i64 x.n,.string x.s,.int .i64 x.v])∧Hid (Gt a w l F r b w')∧Hid (One entB EntR bs x r b):=by
 have HO:=Lib.hid h;have HG0:=Lib.hid (Gt.refl h);clear h;obtain⟨p,hp⟩:∃ p,p=w.heap.size:=⟨_,rfl⟩;obtain⟨W,hW⟩:∃ W,W=w.alloc (.cells #[.int .i64 0,.int .i64 0,.string ⟨#[]⟩,.int .i64 0] 37):=⟨_,rfl⟩
 have HG1:Hid (Gt a w ([(⟨p,0,none⟩,.int .i64 0),(⟨p,1,none⟩,.int .i64 0),(⟨p,2,none⟩,.string ⟨#[]⟩),(⟨p,3,none⟩,.int .i64 0)]++l) ([p]++F) bs bad W):=by
  refine HG0.out.add (by rw[hW];exact Dt.box_below _ _ _) ?_ ?_
  ·intro x hx
   simp only[List.mem_cons,List.not_mem_nil,or_false]at hx
   rcases hx with rfl | rfl | rfl | rfl <;> exact⟨by dsimp only;omega,by rw[hW];simp <;> omega,by rw[hW,hp];go_simp⟩
  ·intro q hq
   simp only[List.mem_cons,List.not_mem_nil,or_false]at hq;subst hq;exact⟨by omega,by rw[hW,hp];simp,fun j=>by rw[hW,hp];go_simp⟩
 have HPW:Hid (w.heap.size≤p):=by unfold Hid;omega
 have HW:=Lib.hid hW;have Hp:=Lib.hid hp;clear hp hW HG0;go_enter Try.func56,Try.ntmps56;go_wp2_with fail
 try rw[← HW.out]
 try rw[← Hp.out]
 refine (gcenter_any HG1.out.1).mono ?_;rintro e w1 ⟨x0,r1,b1,rfl,HG,H1⟩;have HG2:=Lib.hid (HG1.out.trans HG.out);clear HG HG1;go_wp2_with fail;refine (gnum_any 1099511627776 (by omega) (by omega) HG2.out.1).mono ?_;rintro e w2 ⟨x1,r2,b2,rfl,HG,H2⟩;have HG3:=Lib.hid (HG2.out.trans HG.out);clear HG HG2;obtain⟨q,hq⟩:∃ q,q=w2.heap.size:=⟨_,rfl⟩;obtain⟨W3,hW3⟩:∃ W,W=w2.alloc (.cells #[.int .i64 x0,.int .i64 x1] 35):=⟨_,rfl⟩
 have HG4:Hid (Gt a w ([(⟨q,0,none⟩,.int .i64 x0),(⟨q,1,none⟩,.int .i64 x1)]++([(⟨p,0,none⟩,.int .i64 0),(⟨p,1,none⟩,.int .i64 0),(⟨p,2,none⟩,.string ⟨#[]⟩),(⟨p,3,none⟩,.int .i64 0)]++l)) ([]++([p]++F)) r2 b2 W3):=by
  refine HG3.out.add (by rw[hW3];exact Dt.box_below _ _ _) ?_ (by simp);intro x hx;simp only[List.mem_cons,List.not_mem_nil,or_false]at hx
  rcases hx with rfl | rfl <;> exact⟨by dsimp only;omega,by rw[hW3];simp <;> omega,by rw[hW3,hq];go_simp⟩
 have hqp:¬q=p:=by
  have h1:=World.block_lt_of_cell? w2 _ HG3.out.c0;dsimp only at h1;omega
 have hpq:¬p=q:=fun h=>hqp h.symm;have HW3:=Lib.hid hW3;have Hq:=Lib.hid hq;clear hq hW3 HG3;go_wp2_with fail;rw[← HW3.out]
 try rw[← Hq.out]
 refine wp_region_held_drew (S:=fun W=>W.cell? ⟨q,0,none⟩=some (.int .i64 x0)∧W.cell? ⟨q,1,none⟩=some (.int .i64 x1)) (by kernel_rfl) (by exact⟨(HG4.out.later (bel_drewN (Below.refl _ _) 1)).c0,(HG4.out.later (bel_drewN (Below.refl _ _) 1)).c1⟩) (fun hHeld=>?_);obtain⟨wz,hwz,hbz⟩:=drq W3;have HG4:=Lib.hid (HG4.out.later hbz);rw[← hwz]at hHeld ⊢;clear hwz hbz;refine Tk 0 9 ?_;refine Tk 1 10 ?_;refine Tk 3 12 ?_;refine Tc 2 (fun K hK=>?_);go_simp;refine (gtxt_any HG4.out.1).mono ?_;rintro e v1 ⟨s,r3,b3,rfl,HG,H3⟩;have HG5:=Lib.hid (HG4.out.trans HG.out);clear HG HG4;clear hHeld;refine Th hK ?_ (fun hHeld=>?_)
 ·exact⟨HG5.out.c0,HG5.out.c1⟩
 clear hK K;refine Tc 4 (fun K hK=>?_);go_simp;refine (gnum_any 1099511627776 (by omega) (by omega) HG5.out.1).mono ?_;rintro e v2 ⟨x3,r4,b4,rfl,HG,H4⟩;have HG6:=Lib.hid (HG5.out.trans HG.out);clear HG HG5;have HS:=Lib.hid (ent_one H1.out H2.out H3.out H4.out);have q0:=HG6.out.c0;have q1:=HG6.out.c1;have k0:=HG6.out.c2;have k1:=HG6.out.c3;have k2:=HG6.out.c4;have k3:=HG6.out.c5;have f0:=HG6.out.f0.2 0;have f1:=HG6.out.f0.2 1;have f2:=HG6.out.f0.2 2;have f3:=HG6.out.f0.2 3;obtain⟨W9,hW9⟩:∃ W,W=((((v2.setCell ⟨p,0,none⟩ (.int .i64 x0)).setCell ⟨p,1,none⟩ (.int .i64 x1)).setCell ⟨p,2,none⟩ (.string s)).setCell ⟨p,3,none⟩ (.int .i64 x3)):=⟨_,rfl⟩
 have HB9:Hid (Below w.heap.size v2 W9):=by unfold Hid;rw[hW9];exact (((((Below.refl w.heap.size v2).setCell (p:=⟨p,0,none⟩) HPW.out _).setCell (p:=⟨p,1,none⟩) HPW.out _).setCell (p:=⟨p,2,none⟩) HPW.out _).setCell (p:=⟨p,3,none⟩) HPW.out _)
 have HG9:Hid (Gt a w l F r4 b4 W9):=(HG6.out.sub (l2:=l) (F2:=F) (fun x hx=>by simp[hx]) (fun x hx=>by simp[hx])).low HO.out HB9.out
 have l0:W9.cell? ⟨p,0,none⟩=some (.int .i64 x0):=by rw[hW9];go_simp
 have l1:W9.cell? ⟨p,1,none⟩=some (.int .i64 x1):=by rw[hW9];go_simp
 have l2:W9.cell? ⟨p,2,none⟩=some (.string s):=by rw[hW9];go_simp
 have l3:W9.cell? ⟨p,3,none⟩=some (.int .i64 x3):=by rw[hW9];go_simp
 have HW9:=Lib.hid hW9;clear hW9;clear hHeld;refine Th hK ?_ (fun hHeld=>?_)
 ·exact⟨HG6.out.c0,HG6.out.c1⟩
 clear hK K;refine Tk 5 14 ?_;refine Tc 6 (fun K hK=>?_);go_simp;refine Th hK ?_ (fun hHeld2=>?_)
 ·constructor <;> go_simp
 clear hK K hHeld;have hHeld:=hHeld2;clear hHeld2;refine wpAnyH_done (by kernel_rfl) ?_ _;clear hHeld;go_wp2;rw[← HW9.out];exact bodyPost_ret (v:=.agg #[.int .i64 x0,.int .i64 x1,.string s,.int .i64 x3]) (by simp[results,Try.results56,go_sem,l0,l1,l2,l3]) rfl ⟨⟨x0,x1,s,x3⟩,r4,b4,rfl,HG9,HS⟩
end Pk
end Go.Proofs.Ytcbpgemiffmieaa
set_option maxRecDepth 100000
set_option maxHeartbeats 4000000
namespace Go.Proofs.Ytcbpgemiffmieaa
open Go.ChangeShapes Go.WideShapes Go.ChangeAt Go.RowKit
namespace Pk
open Tr Cx Sp Rw Codec
theorem gallSp_any {w:World} {l:List (Addr×Value)} {F:List Nat} {a:Nat} {bs:List UInt8} {bad:Bool} (hbs:bs.length≤100000) (h:InC w l F a bs bad) :
  Calls Try.prog 41 #[.pointer (some ⟨a,0,none⟩),.func (.func 42) #[] #[]] w fun e w'=>∃ (ps:List S3) (n c:Nat) (A:Option Addr) (r:List UInt8) (b:Bool),e = .returned (.slice A n c)∧Hid (ps.length=n)∧Hid (Own w' w.heap.size 40 3 A n c (spsC ps))∧Hid (Gt a w l F r b w')∧Hid (One (listB spB) (fun l=>∀ y∈l,SpanR y) bs ps r b)∧Hid (n≤bs.length):=by
 have HO:=Lib.hid h;have haw:=h.at_.lt;have hin:=h.at_;clear h;go_enter Try.func41,Try.ntmps41;go_wp2_with fail;refine (left_any hin).mono ?_;rintro e w1 ⟨rfl,rfl⟩;clear hin;go_wp2_with fail;refine (gnum_in (bs.length:Int) (by omega) (by omega) HO.out).mono ?_;rintro e w1 ⟨N,r0,b0,rfl,HG,H1,HN⟩
 by_cases hneg:N<0
 ·have f1:decide (N<0)=true:=decide_eq_true hneg
  have f2:decide (0<N)=false:=decide_eq_false (by omega)
  have HM:Hid (Many spB SpanR bs 0 [] [] true):=Many.no sp_pos fun v x h1 h2 e=>by
   rcases H1.out with ⟨_,e1⟩ | ⟨_,_,hno⟩
   ·rw[e1]at e
    obtain⟨e3,_⟩:=numB_prefix e;omega
   ·exact hno v x ⟨by omega,by omega⟩ e
  have HOne:=Lib.hid (HM.out.all fun h=>by cases h);clear H1 HN hneg HM;go_wp2_with fail;refine (gfail_any HG.out.1).mono ?_;rintro e w2 ⟨rfl,HG2⟩;have HG3:=Lib.hid (HG.out.trans HG2.out);clear HG HG2;go_wp2_with fail
  go_loopw [5,6] (fun i s wr=>i = .int .i64 N∧s = .slice none 0 0∧Hid (wr=w2)) (fun _ _ _=>0)
  case atStart=>exact⟨rfl,rfl,rfl⟩
  case round=>
   obtain⟨rfl,rfl,HE⟩:=hrel
   have HG4:Hid (Gt a w l F [] true wr):=by unfold Hid;rw[HE.out];exact HG3.out
   clear HE;go_wp2;go_ret;exact⟨[],0,0,none,[],true,rfl,rfl,⟨World.ownsRow_nil _ _ _ _,by simp[spsC]⟩,HG4,HOne,Nat.zero_le _⟩
 ·have f1:decide (N<0)=false:=decide_eq_false hneg
  obtain⟨K,rfl⟩:∃ K:Nat,N=(K:Int):=⟨N.toNat,by omega⟩
  have hKb:K≤bs.length:=by
   rcases HN.out with h | h
   ·omega
   ·have:=h.2;omega
  have HKB:=Lib.hid hKb
  have hK9:K≤100000:=by omega
  have HM:Hid (Many spB SpanR bs K [] r0 b0):=by
   rcases H1.out with ⟨rfl,e1⟩ | ⟨rfl,rfl,hno⟩
   ·exact Many.zero e1
   ·exact Many.no sp_pos fun v x h1 h2 e=>hno v x ⟨by omega,by omega⟩ e
  clear H1 HN hneg hKb;go_wp2_with fail
  go_loopw [5,6] (fun i s wr=>∃ (j c:Nat) (A:Option Addr) (ps:List S3) (r:List UInt8) (b:Bool),i = .int .i64 ((K:Int)-(j:Int))∧s = .slice A j c∧j≤K∧Hid (ps.length=j)∧Hid (Own wr w.heap.size 40 3 A j c (spsC ps))∧Hid (Gt a w l F r b wr)∧Hid (Many spB SpanR bs K ps r b)) (fun i _ _=>(intOf i).toNat)
  case atStart=>exact⟨0,0,none,[],r0,b0,by simp,rfl,Nat.zero_le _,rfl,⟨World.ownsRow_nil _ _ _ _,by simp[spsC]⟩,HG,HM⟩
  case round=>
   obtain⟨j,c,A,ps,r,b,rfl,rfl,hj,HL,HW,HG,HM⟩:=hrel;have hin:=HG.out.1.at_
   by_cases hlt:j<K
   ·have f2:decide ((0:Int)<(K:Int)-(j:Int))=true:=decide_eq_true (by omega)
    have f3:decide (j<K)=true:=decide_eq_true hlt;have f4:decide ((j:Int)<(K:Int))=true:=decide_eq_true (by omega)
    cases b with
    | true=>
     have HOne:=Lib.hid (HM.out.all fun h=>by cases h)
     have HJ:Hid (j≤bs.length):=by have:=HKB.out;unfold Hid;omega
     clear HM hlt;go_wp2_with (go_at_call 44;refine (bad_any hin).mono ?_;rintro e w9 ⟨rfl,rfl⟩);go_ret;exact⟨ps,j,c,A,r,true,rfl,HL,HW,HG,HOne,HJ⟩
    | false=>
     go_wp2_with fail;refine (bad_any hin).mono ?_;rintro e w9 ⟨rfl,rfl⟩;clear hin;go_wp2_with fail;refine (gspan_any HG.out.1).mono ?_;rintro e w2 ⟨⟨x0,x1,x2⟩,r2,b2,rfl,HG2,H2⟩;have HGN:=Lib.hid (HG.out.trans HG2.out);have HOW2:Hid (Own w2 w.heap.size 40 3 A j c (spsC ps)):=own_gb HW.out HG2.out.2 haw;have HMN:=Lib.hid (HM.out.step pre_sp (by have:=HL.out;omega) H2.out);have hws:w.heap.size≤w2.heap.size:=HGN.out.2.size;obtain⟨A3,c3,w3,hrun,how3,hb3⟩:=push spC_len spC_one (t:=28) Try.underlying28 Cx.infoS rfl (by omega) (by omega) w2 w.heap.size w2.heap.size rfl hws (.slice A j c) ps (by rw[HL.out];exact HOW2.out.row) (x0,x1,x2) #[.int .i64 x0,.int .i64 x1,.int .i64 x2] rfl (by have:=HL.out;omega)
     have hln:(ps++[(x0,x1,x2)]).length=j+1:=by simp[HL.out]
     rw[hln]at hrun how3;have HG3:=Lib.hid (HGN.out.low HO.out (bs:=bs) (bad:=bad) hb3)
     have HL3:Hid ((ps++[(x0,x1,x2)]).length=j+1):=by have:=HL.out;unfold Hid;simp[this]
     have Hrun:=Lib.hid hrun;have HOW3:=Lib.hid how3;clear HG HG2 HM H2 HW HOW2 hws hrun how3 hb3 HGN;go_wp2_with (at_builtin;refine Lib.wpList_append_run _ rfl _ _ _ _ rfl _ _ rfl rfl _ _ Hrun.out ?_);go_roundw
     case rel=>exact⟨j+1,c3,A3,ps++[(x0,x1,x2)],r2,b2,by go_num,rfl,by omega,HL3,HOW3,HG3,HMN⟩
     case measure=>simp[intOf];omega
   ·have f2:decide ((0:Int)<(K:Int)-(j:Int))=false:=decide_eq_false (by omega)
    have f3:decide (j<K)=false:=decide_eq_false hlt;have f4:decide ((j:Int)<(K:Int))=false:=decide_eq_false (by omega);have HOne:=Lib.hid (HM.out.all fun h=>by have:=HL.out;omega)
    have HJ:Hid (j≤bs.length):=by have:=HKB.out;unfold Hid;omega
    clear HM hlt hin;go_wp2;go_ret;exact⟨ps,j,c,A,r,b,rfl,HL,HW,HG,HOne,HJ⟩
theorem gallEn_any {w:World} {l:List (Addr×Value)} {F:List Nat} {a:Nat} {bs:List UInt8} {bad:Bool} (hbs:bs.length≤100000) (h:InC w l F a bs bad) :
  Calls Try.prog 55 #[.pointer (some ⟨a,0,none⟩),.func (.func 56) #[] #[]] w fun e w'=>∃ (ps:List E) (n c:Nat) (A:Option Addr) (r:List UInt8) (b:Bool),e = .returned (.slice A n c)∧Hid (ps.length=n)∧Hid (Own w' w.heap.size 37 4 A n c (entsC ps))∧Hid (Gt a w l F r b w')∧Hid (One (listB entB) (fun l=>∀ y∈l,EntR y) bs ps r b)∧Hid (n≤bs.length):=by
 have HO:=Lib.hid h;have haw:=h.at_.lt;have hin:=h.at_;clear h;go_enter Try.func55,Try.ntmps55;go_wp2_with fail;refine (left_any hin).mono ?_;rintro e w1 ⟨rfl,rfl⟩;clear hin;go_wp2_with fail;refine (gnum_in (bs.length:Int) (by omega) (by omega) HO.out).mono ?_;rintro e w1 ⟨N,r0,b0,rfl,HG,H1,HN⟩
 by_cases hneg:N<0
 ·have f1:decide (N<0)=true:=decide_eq_true hneg
  have f2:decide (0<N)=false:=decide_eq_false (by omega)
  have HM:Hid (Many entB EntR bs 0 [] [] true):=Many.no ent_pos' fun v x h1 h2 e=>by
   rcases H1.out with ⟨_,e1⟩ | ⟨_,_,hno⟩
   ·rw[e1]at e
    obtain⟨e3,_⟩:=numB_prefix e;omega
   ·exact hno v x ⟨by omega,by omega⟩ e
  have HOne:=Lib.hid (HM.out.all fun h=>by cases h);clear H1 HN hneg HM;go_wp2_with fail;refine (gfail_any HG.out.1).mono ?_;rintro e w2 ⟨rfl,HG2⟩;have HG3:=Lib.hid (HG.out.trans HG2.out);clear HG HG2;go_wp2_with fail
  go_loopw [5,6] (fun i s wr=>i = .int .i64 N∧s = .slice none 0 0∧Hid (wr=w2)) (fun _ _ _=>0)
  case atStart=>exact⟨rfl,rfl,rfl⟩
  case round=>
   obtain⟨rfl,rfl,HE⟩:=hrel
   have HG4:Hid (Gt a w l F [] true wr):=by unfold Hid;rw[HE.out];exact HG3.out
   clear HE;go_wp2;go_ret;exact⟨[],0,0,none,[],true,rfl,rfl,⟨World.ownsRow_nil _ _ _ _,by simp[entsC]⟩,HG4,HOne,Nat.zero_le _⟩
 ·have f1:decide (N<0)=false:=decide_eq_false hneg
  obtain⟨K,rfl⟩:∃ K:Nat,N=(K:Int):=⟨N.toNat,by omega⟩
  have hKb:K≤bs.length:=by
   rcases HN.out with h | h
   ·omega
   ·have:=h.2;omega
  have HKB:=Lib.hid hKb
  have hK9:K≤100000:=by omega
  have HM:Hid (Many entB EntR bs K [] r0 b0):=by
   rcases H1.out with ⟨rfl,e1⟩ | ⟨rfl,rfl,hno⟩
   ·exact Many.zero e1
   ·exact Many.no ent_pos' fun v x h1 h2 e=>hno v x ⟨by omega,by omega⟩ e
  clear H1 HN hneg hKb;go_wp2_with fail
  go_loopw [5,6] (fun i s wr=>∃ (j c:Nat) (A:Option Addr) (ps:List E) (r:List UInt8) (b:Bool),i = .int .i64 ((K:Int)-(j:Int))∧s = .slice A j c∧j≤K∧Hid (ps.length=j)∧Hid (Own wr w.heap.size 37 4 A j c (entsC ps))∧Hid (Gt a w l F r b wr)∧Hid (Many entB EntR bs K ps r b)) (fun i _ _=>(intOf i).toNat)
  case atStart=>exact⟨0,0,none,[],r0,b0,by simp,rfl,Nat.zero_le _,rfl,⟨World.ownsRow_nil _ _ _ _,by simp[entsC]⟩,HG,HM⟩
  case round=>
   obtain⟨j,c,A,ps,r,b,rfl,rfl,hj,HL,HW,HG,HM⟩:=hrel;have hin:=HG.out.1.at_
   by_cases hlt:j<K
   ·have f2:decide ((0:Int)<(K:Int)-(j:Int))=true:=decide_eq_true (by omega)
    have f3:decide (j<K)=true:=decide_eq_true hlt;have f4:decide ((j:Int)<(K:Int))=true:=decide_eq_true (by omega)
    cases b with
    | true=>
     have HOne:=Lib.hid (HM.out.all fun h=>by cases h)
     have HJ:Hid (j≤bs.length):=by have:=HKB.out;unfold Hid;omega
     clear HM hlt;go_wp2_with (go_at_call 44;refine (bad_any hin).mono ?_;rintro e w9 ⟨rfl,rfl⟩);go_ret;exact⟨ps,j,c,A,r,true,rfl,HL,HW,HG,HOne,HJ⟩
    | false=>
     go_wp2_with fail;refine (bad_any hin).mono ?_;rintro e w9 ⟨rfl,rfl⟩;clear hin;go_wp2_with fail;refine (gentry_any HG.out.1).mono ?_;rintro e w2 ⟨x,r2,b2,rfl,HG2,H2⟩;have HGN:=Lib.hid (HG.out.trans HG2.out);have HOW2:Hid (Own w2 w.heap.size 37 4 A j c (entsC ps)):=own_gb HW.out HG2.out.2 haw;have HMN:=Lib.hid (HM.out.step pre_ent (by have:=HL.out;omega) H2.out);have hws:w.heap.size≤w2.heap.size:=HGN.out.2.size;obtain⟨A3,c3,w3,hrun,how3,hb3⟩:=push entC_len entC_one (t:=24) Try.underlying24 infoE rfl (by omega) (by omega) w2 w.heap.size w2.heap.size rfl hws (.slice A j c) ps (by rw[HL.out];exact HOW2.out.row) x #[.int .i64 x.a,.int .i64 x.n,.string x.s,.int .i64 x.v] rfl (by have:=HL.out;omega)
     have hln:(ps++[x]).length=j+1:=by simp[HL.out]
     rw[hln]at hrun how3;have HG3:=Lib.hid (HGN.out.low HO.out (bs:=bs) (bad:=bad) hb3)
     have HL3:Hid ((ps++[x]).length=j+1):=by have:=HL.out;unfold Hid;simp[this]
     have Hrun:=Lib.hid hrun;have HOW3:=Lib.hid how3;clear HG HG2 HM H2 HW HOW2 hws hrun how3 hb3 HGN;go_wp2_with (at_builtin;refine Lib.wpList_append_run _ rfl _ _ _ _ rfl _ _ rfl rfl _ _ Hrun.out ?_);go_roundw
     case rel=>exact⟨j+1,c3,A3,ps++[x],r2,b2,by go_num,rfl,by omega,HL3,HOW3,HG3,HMN⟩
     case measure=>simp[intOf];omega
   ·have f2:decide ((0:Int)<(K:Int)-(j:Int))=false:=decide_eq_false (by omega)
    have f3:decide (j<K)=false:=decide_eq_false hlt;have f4:decide ((j:Int)<(K:Int))=false:=decide_eq_false (by omega);have HOne:=Lib.hid (HM.out.all fun h=>by have:=HL.out;omega)
    have HJ:Hid (j≤bs.length):=by have:=HKB.out;unfold Hid;omega
    clear HM hlt hin;go_wp2;go_ret;exact⟨ps,j,c,A,r,b,rfl,HL,HW,HG,HOne,HJ⟩
end Pk
end Go.Proofs.Ytcbpgemiffmieaa
set_option maxRecDepth 100000
set_option maxHeartbeats 4000000
namespace Go.Proofs.Ytcbpgemiffmieaa
open Go.ChangeShapes Go.WideShapes Go.ChangeAt Go.RowKit
namespace Pk
open Tr Cx Sp Rw Codec
def LevP (d:Nat):Prop:=∀ (w:World) (l:List (Addr×Value)) (F:List Nat) (a:Nat) (bs:List UInt8) (bad:Bool),bs.length≤100000→InC w l F a bs bad →
  Calls Try.prog 40 #[.pointer (some ⟨a,0,none⟩),.int .i64 ((d:Nat):Int)] w fun e w'=>∃ (t:T) (se sk:SV) (r:List UInt8) (b:Bool),e = .returned (.agg #[.slice se.A se.n se.c,.slice sk.A sk.n sk.c])∧Hid (RdO w' (fun z=>w.heap.size≤z) t se sk∧LenT reachBytes t)∧Hid (Gt a w l F r b w')∧Hid (One treeB (RightT d) bs t r b)
theorem gkid_any {d:Nat} {m:Int} (hm:m=((d:Nat):Int)+1) (hd:d≤100) (hlev:LevP d) {q:Nat} {w:World} {l:List (Addr×Value)} {F:List Nat} {a:Nat} {bs:List UInt8} {bad:Bool} (hbs:bs.length≤100000) (h:InC w ((⟨q,0,none⟩,.int .i64 m)::l) F a bs bad) :
  Calls Try.prog 58 #[.pointer (some ⟨a,0,none⟩),.pointer (some ⟨q,0,none⟩)] w fun e w'=>∃ (s:ByteArray) (t:T) (se sk:SV) (r:List UInt8) (b:Bool),e = .returned (.agg #[.string s,.slice se.A se.n se.c,.slice sk.A sk.n sk.c])∧Hid (RdO w' (fun z=>w.heap.size≤z) t se sk∧LenT reachBytes t)∧Hid (Gt a w ((⟨q,0,none⟩,.int .i64 m)::l) F r b w')∧Hid (One kidB (KidR d) bs (s,t) r b):=by
 have HO:=Lib.hid h;have HV:=Lib.hid hlev;have HG0:=Lib.hid (Gt.refl h)
 have hwr:IntKind.i64.wrap (m-1)=((d:Nat):Int):=by rw[hm,show ((d:Nat):Int)+1-1=((d:Nat):Int) by omega];exact IntWalk.i64_in _ (by omega)
 clear h hlev hm;obtain⟨p,hp⟩:∃ p,p=w.heap.size:=⟨_,rfl⟩;obtain⟨W,hW⟩:∃ W,W=w.alloc (.cells #[.string ⟨#[]⟩,.slice none 0 0,.slice none 0 0] 72):=⟨_,rfl⟩
 have HG1:Hid (Gt a w ([(⟨p,0,none⟩,.string ⟨#[]⟩),(⟨p,1,none⟩,.slice none 0 0),(⟨p,2,none⟩,.slice none 0 0)]++((⟨q,0,none⟩,.int .i64 m)::l)) ([p]++F) bs bad W):=by
  refine HG0.out.add (by rw[hW];exact Dt.box_below _ _ _) ?_ ?_
  ·intro x hx
   simp only[List.mem_cons,List.not_mem_nil,or_false]at hx
   rcases hx with rfl | rfl | rfl <;> exact⟨by dsimp only;omega,by rw[hW];simp <;> omega,by rw[hW,hp];go_simp⟩
  ·intro q hq
   simp only[List.mem_cons,List.not_mem_nil,or_false]at hq;subst hq;exact⟨by omega,by rw[hW,hp];simp,fun j=>by rw[hW,hp];go_simp⟩
 have HPW:Hid (w.heap.size≤p):=by unfold Hid;omega
 have hqp:¬q=p:=by
  have h1:=(HO.out.cells _ (List.mem_cons_self)).1;dsimp only at h1;omega
 have hpq:¬p=q:=fun h=>hqp h.symm
 have hszW:W.heap.size=p+1:=by rw[hW,hp];simp
 have HSZ:=Lib.hid hszW;have HW:=Lib.hid hW;have Hp:=Lib.hid hp;clear hp hW HG0 hszW;go_enter Try.func58,Try.ntmps58;go_wp2_with fail
 try rw[← HW.out]
 try rw[← Hp.out]
 refine wp_region_held_drew (S:=fun W=>W.cell? ⟨q,0,none⟩=some (.int .i64 m)) (by kernel_rfl) (by exact (HG1.out.later (bel_drewN (Below.refl _ _) 1)).c3) (fun hHeld=>?_);obtain⟨wz,hwz,hbz⟩:=drq W;have HG1:=Lib.hid (HG1.out.later hbz);rw[← hwz]at hHeld ⊢;clear hwz hbz;refine Tk 0 4 ?_;refine Tk 2 6 ?_;refine Tk 3 7 ?_;refine Tk 4 8 ?_;refine Tc 1 (fun K hK=>?_);go_simp;refine (gtxt_any HG1.out.1).mono ?_;rintro e v1 ⟨s,r3,b3,rfl,HG,H3⟩;have HG5:=Lib.hid (HG1.out.trans HG.out)
 have HR3:Hid (r3.length≤100000):=by have:=H3.out.le;unfold Hid;omega
 clear HG HG1

 clear hHeld;refine Th hK ?_ (fun hHeld=>?_)
 ·exact HG5.out.c3
 clear hK K;refine Tc 5 (fun K hK=>?_);go_simp;refine (HV.out v1 _ _ a r3 b3 HR3.out HG5.out.1).mono ?_;rintro e v2 ⟨t,⟨Ae,ne,ce⟩,⟨Ak,nk,ck⟩,r4,b4,rfl,HRT,HG,H4⟩;have HG6:=Lib.hid (HG5.out.trans HG.out)
 have HSV:Hid (p+1≤v1.heap.size):=by have h1:=HG5.out.2.size;have h2:=HSZ.out;have h3:=HG5.out.f0.1;unfold Hid;omega
 clear HG HG5;have HS:=Lib.hid (kid_one H3.out H4.out);have k0:=HG6.out.c0;have k1:=HG6.out.c1;have k2:=HG6.out.c2;have k3:=HG6.out.c3;have f0:=HG6.out.f0.2 0;have f1:=HG6.out.f0.2 1;have f2:=HG6.out.f0.2 2;obtain⟨W9,hW9⟩:∃ W,W=(((v2.setCell ⟨p,0,none⟩ (.string s)).setCell ⟨p,1,none⟩ (.slice Ae ne ce)).setCell ⟨p,2,none⟩ (.slice Ak nk ck)):=⟨_,rfl⟩
 have HB9:Hid (Below w.heap.size v2 W9):=by unfold Hid;rw[hW9];exact ((((Below.refl w.heap.size v2).setCell (p:=⟨p,0,none⟩) HPW.out _).setCell (p:=⟨p,1,none⟩) HPW.out _).setCell (p:=⟨p,2,none⟩) HPW.out _)
 have HG9:Hid (Gt a w ((⟨q,0,none⟩,.int .i64 m)::l) F r4 b4 W9):=(HG6.out.sub (l2:=((⟨q,0,none⟩,.int .i64 m)::l)) (F2:=F) (fun x hx=>List.mem_append_right _ hx) (fun x hx=>List.mem_append_right _ hx)).low HO.out HB9.out
 have HR9:Hid (RdO W9 (fun z=>w.heap.size≤z) t ⟨Ae,ne,ce⟩ ⟨Ak,nk,ck⟩):=by
  have h1:=RdO.mono (ok':=fun z=>p+1≤z) (fun z hz _=>by have:=HSV.out;omega) _ HRT.out.1;refine RdO.mono (fun z hz _=>by have:=HPW.out;omega) _ (RdO.keep (ok:=fun z=>p+1≤z) (by rw[hW9];simp[World.setCell]) (fun z hz _=>?_) _ h1);rw[hW9];exact ((Below.heap_setCell _ ⟨p,2,none⟩ _ z (by dsimp only;omega)).trans (Below.heap_setCell _ ⟨p,1,none⟩ _ z (by dsimp only;omega))).trans (Below.heap_setCell _ ⟨p,0,none⟩ _ z (by dsimp only;omega))
 have l0:W9.cell? ⟨p,0,none⟩=some (.string s):=by rw[hW9];go_simp
 have l1:W9.cell? ⟨p,1,none⟩=some (.slice Ae ne ce):=by rw[hW9];go_simp
 have l2:W9.cell? ⟨p,2,none⟩=some (.slice Ak nk ck):=by rw[hW9];go_simp
 have HW9:=Lib.hid hW9;clear hW9;refine hK.out _ _ ?_ (fun hHeld2=>?_)
 ·exact HG6.out.c3
 clear hK K hHeld;have hHeld:=hHeld2;clear hHeld2
 try simp only[]
 refine Tk 6 10 ?_;refine Tc 7 (fun K hK=>?_);go_simp;refine Th hK ?_ (fun hHeld2=>?_)
 ·go_simp
 clear hK K hHeld;have hHeld:=hHeld2;clear hHeld2;refine wpAnyH_done (by kernel_rfl) ?_ _;clear hHeld;go_wp2;rw[← HW9.out];exact bodyPost_ret (v:=.agg #[.string s,.slice Ae ne ce,.slice Ak nk ck]) (by simp[results,Try.results58,go_sem,l0,l1,l2]) rfl ⟨s,t,⟨Ae,ne,ce⟩,⟨Ak,nk,ck⟩,r4,b4,rfl,⟨HR9.out,HRT.out.2⟩,HG9,HS⟩
theorem gallKi_any {d:Nat} {m:Int} (hm:m=((d:Nat):Int)+1) (hd:d≤100) (hlev:LevP d) {q:Nat} {w:World} {l:List (Addr×Value)} {F:List Nat} {a:Nat} {bs:List UInt8} {bad:Bool} (hbs:bs.length≤100000) (h:InC w ((⟨q,0,none⟩,.int .i64 m)::l) F a bs bad) :
  Calls Try.prog 57 #[.pointer (some ⟨a,0,none⟩),.func (.func 58) #[] #[.pointer (some ⟨q,0,none⟩)]] w fun e w'=>∃ (ps:List (ByteArray×T)) (n c:Nat) (A:Option Addr) (kr:List (ByteArray×SV×SV)) (r:List UInt8) (b:Bool),e = .returned (.slice A n c)∧Hid (ps.length=n)∧Hid (KidRow w' (w.heap.size) 72 A n c ps kr∧∀ k∈ps,LenT reachBytes k.2)∧Hid (Gt a w ((⟨q,0,none⟩,.int .i64 m)::l) F r b w')∧Hid (One (listB kidB) (fun l=>∀ y∈l,(KidR d) y) bs ps r b)∧Hid (n≤bs.length):=by
 have HO:=Lib.hid h;have haw:=h.at_.lt;have hin:=h.at_;have HV:=Lib.hid hlev;have HMM:=Lib.hid hm;clear hlev hm;clear h;go_enter Try.func57,Try.ntmps57;go_wp2_with fail;refine (left_any hin).mono ?_;rintro e w1 ⟨rfl,rfl⟩;clear hin;go_wp2_with fail;refine (gnum_in (bs.length:Int) (by omega) (by omega) HO.out).mono ?_;rintro e w1 ⟨N,r0,b0,rfl,HG,H1,HN⟩
 by_cases hneg:N<0
 ·have f1:decide (N<0)=true:=decide_eq_true hneg
  have f2:decide (0<N)=false:=decide_eq_false (by omega)
  have HM:Hid (Many kidB (KidR d) bs 0 [] [] true):=Many.no kid_pos' fun v x h1 h2 e=>by
   rcases H1.out with ⟨_,e1⟩ | ⟨_,_,hno⟩
   ·rw[e1]at e
    obtain⟨e3,_⟩:=numB_prefix e;omega
   ·exact hno v x ⟨by omega,by omega⟩ e
  have HOne:=Lib.hid (HM.out.all fun h=>by cases h);clear H1 HN hneg HM;go_wp2_with fail;refine (gfail_any HG.out.1).mono ?_;rintro e w2 ⟨rfl,HG2⟩;have HG3:=Lib.hid (HG.out.trans HG2.out);clear HG HG2;go_wp2_with fail
  go_loopw [5,6] (fun i s wr=>i = .int .i64 N∧s = .slice none 0 0∧Hid (wr=w2)) (fun _ _ _=>0)
  case atStart=>exact⟨rfl,rfl,rfl⟩
  case round=>
   obtain⟨rfl,rfl,HE⟩:=hrel
   have HG4:Hid (Gt a w ((⟨q,0,none⟩,.int .i64 m)::l) F [] true wr):=by unfold Hid;rw[HE.out];exact HG3.out
   clear HE;go_wp2;go_ret;exact⟨[],0,0,none,[],[],true,rfl,rfl,⟨KidRow.nil _ _ _,by simp⟩,HG4,HOne,Nat.zero_le _⟩
 ·have f1:decide (N<0)=false:=decide_eq_false hneg
  obtain⟨K,rfl⟩:∃ K:Nat,N=(K:Int):=⟨N.toNat,by omega⟩
  have hKb:K≤bs.length:=by
   rcases HN.out with h | h
   ·omega
   ·have:=h.2;omega
  have HKB:=Lib.hid hKb
  have hK9:K≤100000:=by omega
  have HM:Hid (Many kidB (KidR d) bs K [] r0 b0):=by
   rcases H1.out with ⟨rfl,e1⟩ | ⟨rfl,rfl,hno⟩
   ·exact Many.zero e1
   ·exact Many.no kid_pos' fun v x h1 h2 e=>hno v x ⟨by omega,by omega⟩ e
  clear H1 HN hneg hKb;go_wp2_with fail
  go_loopw [5,6] (fun i s wr=>∃ (j c:Nat) (A:Option Addr) (kr:List (ByteArray×SV×SV)) (ps:List (ByteArray×T)) (r:List UInt8) (b:Bool),i = .int .i64 ((K:Int)-(j:Int))∧s = .slice A j c∧j≤K∧Hid (ps.length=j)∧Hid (KidRow wr (w.heap.size) 72 A j c ps kr∧∀ k∈ps,LenT reachBytes k.2)∧Hid (Gt a w ((⟨q,0,none⟩,.int .i64 m)::l) F r b wr)∧Hid (Many kidB (KidR d) bs K ps r b)) (fun i _ _=>(intOf i).toNat)
  case atStart=>exact⟨0,0,none,[],[],r0,b0,by simp,rfl,Nat.zero_le _,rfl,⟨KidRow.nil _ _ _,by simp⟩,HG,HM⟩
  case round=>
   obtain⟨j,c,A,kr,ps,r,b,rfl,rfl,hj,HL,HW,HG,HM⟩:=hrel;have hin:=HG.out.1.at_
   by_cases hlt:j<K
   ·have f2:decide ((0:Int)<(K:Int)-(j:Int))=true:=decide_eq_true (by omega)
    have f3:decide (j<K)=true:=decide_eq_true hlt;have f4:decide ((j:Int)<(K:Int))=true:=decide_eq_true (by omega)
    cases b with
    | true=>
     have HOne:=Lib.hid (HM.out.all fun h=>by cases h)
     have HJ:Hid (j≤bs.length):=by have:=HKB.out;unfold Hid;omega
     clear HM hlt;go_wp2_with (go_at_call 44;refine (bad_any hin).mono ?_;rintro e w9 ⟨rfl,rfl⟩);go_ret;exact⟨ps,j,c,A,kr,r,true,rfl,HL,HW,HG,HOne,HJ⟩
    | false=>
     go_wp2_with fail;refine (bad_any hin).mono ?_;rintro e w9 ⟨rfl,rfl⟩;clear hin;go_wp2_with fail;refine (gkid_any HMM.out hd HV.out (by have:=HM.out.le;omega) HG.out.1).mono ?_;rintro e w2 ⟨s,t,⟨Ae,ne,ce⟩,⟨Ak,nk,ck⟩,r2,b2,rfl,HR2,HG2,H2⟩;have HGN:=Lib.hid (HG.out.trans HG2.out);have HOW2:Hid (KidRow w2 (w.heap.size) 72 A j c ps kr∧∀ k∈ps,LenT reachBytes k.2):=⟨kid_gb HW.out.1 HG2.out.2 haw,HW.out.2⟩;have HMN:=Lib.hid (HM.out.step pre_kid (by have:=HL.out;omega) H2.out);have hws:w.heap.size≤w2.heap.size:=HGN.out.2.size;have hu:RdO w2 (fun z=>w.heap.size≤z∧(Value.slice A j c).ownBlock≠some z) t ⟨Ae,ne,ce⟩ ⟨Ak,nk,ck⟩:=RdO.mono (fun z hz _=>⟨Nat.le_trans HG.out.2.size hz,fun e=>by have:=(HW.out.1.own.row.lt z e).2;omega⟩) _ HR2.out.1;obtain⟨A3,c3,w3,hrun,hk3,hb3,_⟩:=KidRow.push (k:=(s,⟨Ae,ne,ce⟩,⟨Ak,nk,ck⟩)) (t:=25) Try.underlying25 infoK rfl (by omega) HOW2.out.1 w2.heap.size rfl hws hu (by omega) #[.string s,.slice Ae ne ce,.slice Ak nk ck] rfl
     have how3:KidRow w3 w.heap.size 72 A3 (j+1) c3 (ps++[(s,t)]) (kr++[(s,⟨Ae,ne,ce⟩,⟨Ak,nk,ck⟩)])∧∀ k∈ps++[(s,t)],LenT reachBytes k.2:=⟨hk3,fun k hk=>by
      rcases List.mem_append.1 hk with hk | hk
      ·exact HOW2.out.2 k hk
      ·rw[List.mem_singleton.1 hk]
       exact HR2.out.2⟩
     clear hu hk3;have HG3:=Lib.hid (HGN.out.low HO.out (bs:=bs) (bad:=bad) hb3)
     have HL3:Hid ((ps++[(s,t)]).length=j+1):=by have:=HL.out;unfold Hid;simp[this]
     have Hrun:=Lib.hid hrun;have HOW3:=Lib.hid how3;clear HG HG2 HM H2 HW HOW2 hws hrun how3 hb3 HGN;go_wp2_with (at_builtin;refine Lib.wpList_append_run _ rfl _ _ _ _ rfl _ _ rfl rfl _ _ Hrun.out ?_);go_roundw
     case rel=>exact⟨j+1,c3,A3,kr++[(s,⟨Ae,ne,ce⟩,⟨Ak,nk,ck⟩)],ps++[(s,t)],r2,b2,by go_num,rfl,by omega,HL3,HOW3,HG3,HMN⟩
     case measure=>simp[intOf];omega
   ·have f2:decide ((0:Int)<(K:Int)-(j:Int))=false:=decide_eq_false (by omega)
    have f3:decide (j<K)=false:=decide_eq_false hlt;have f4:decide ((j:Int)<(K:Int))=false:=decide_eq_false (by omega);have HOne:=Lib.hid (HM.out.all fun h=>by have:=HL.out;omega)
    have HJ:Hid (j≤bs.length):=by have:=HKB.out;unfold Hid;omega
    clear HM hlt hin;go_wp2;go_ret;exact⟨ps,j,c,A,kr,r,b,rfl,HL,HW,HG,HOne,HJ⟩
end Pk
end Go.Proofs.Ytcbpgemiffmieaa
set_option maxRecDepth 100000
set_option maxHeartbeats 4000000
namespace Go.Proofs.Ytcbpgemiffmieaa
open Go.ChangeShapes Go.WideShapes Go.ChangeAt Go.RowKit
namespace Pk
open Tr Cx Sp Rw Codec
theorem glev_zero {w:World} {l:List (Addr×Value)} {F:List Nat} {a:Nat} {bs:List UInt8} {bad:Bool} (h:InC w l F a bs bad) :
  Calls Try.prog 40 #[.pointer (some ⟨a,0,none⟩),.int .i64 0] w fun e w'=>∃ (t:T) (se sk:SV) (r:List UInt8) (b:Bool),e = .returned (.agg #[.slice se.A se.n se.c,.slice sk.A sk.n sk.c])∧Hid (RdO w' (fun z=>w.heap.size≤z) t se sk∧LenT reachBytes t)∧Hid (Gt a w l F r b w')∧Hid (One treeB (RightT 0) bs t r b):=by
 have HO:=Lib.hid h;have HG0:=Lib.hid (Gt.refl h);clear h;obtain⟨q,hq⟩:∃ q,q=w.heap.size:=⟨_,rfl⟩;obtain⟨p,hp⟩:∃ p,p=q+1:=⟨_,rfl⟩;obtain⟨W,hW⟩:∃ W,W=(w.alloc (.cells #[.int .i64 0] 3)).alloc (.cells #[.slice none 0 0,.slice none 0 0] 27):=⟨_,rfl⟩
 have HG1:Hid (Gt a w ([(⟨p,0,none⟩,.slice none 0 0),(⟨p,1,none⟩,.slice none 0 0)]++l) ([p]++F) bs bad W):=by
  refine HG0.out.add (by rw[hW];exact ((Below.refl _ _).alloc (Nat.le_refl _) _).alloc (by simp) _) ?_ ?_
  ·intro x hx
   simp only[List.mem_cons,List.not_mem_nil,or_false]at hx
   rcases hx with rfl | rfl <;> exact⟨by dsimp only;omega,by rw[hW];simp <;> omega,by rw[hW,hp,hq];go_simp⟩
  ·intro y hy
   simp only[List.mem_cons,List.not_mem_nil,or_false]at hy;subst hy;exact⟨by omega,by rw[hW,hp,hq];simp,fun j=>by rw[hW,hp,hq];go_simp⟩
 have HPW:Hid (w.heap.size≤p):=by unfold Hid;omega
 have HW:=Lib.hid hW;have Hq:=Lib.hid hq;have Hp:=Lib.hid hp;clear hp hq hW HG0;go_enter Try.func40,Try.ntmps40;go_wp2_with fail
 try rw[← HW.out]
 try rw[← Hq.out]
 try rw[← Hp.out]
 refine (gfail_any HG1.out.1).mono ?_;rintro e w1 ⟨rfl,HG⟩;have HG2:=Lib.hid (HG1.out.trans HG.out);clear HG HG1;have k0:=HG2.out.c0;have k1:=HG2.out.c1;have f0:=HG2.out.f0.2 0;have f1:=HG2.out.f0.2 1;obtain⟨W9,hW9⟩:∃ W,W=((w1.setCell ⟨p,0,none⟩ (.slice none 0 0)).setCell ⟨p,1,none⟩ (.slice none 0 0)):=⟨_,rfl⟩
 have HB9:Hid (Below w.heap.size w1 W9):=by unfold Hid;rw[hW9];exact (((Below.refl w.heap.size w1).setCell (p:=⟨p,0,none⟩) HPW.out _).setCell (p:=⟨p,1,none⟩) HPW.out _)
 have HG9:Hid (Gt a w l F [] true W9):=(HG2.out.sub (l2:=l) (F2:=F) (fun x hx=>by simp[hx]) (fun x hx=>by simp[hx])).low HO.out HB9.out
 have l0:W9.cell? ⟨p,0,none⟩=some (.slice none 0 0):=by rw[hW9];go_simp
 have l1:W9.cell? ⟨p,1,none⟩=some (.slice none 0 0):=by rw[hW9];go_simp
 have HW9:=Lib.hid hW9;clear hW9;go_wp2;rw[← HW9.out];exact bodyPost_ret (v:=.agg #[.slice none 0 0,.slice none 0 0]) (by simp[results,Try.results40,go_sem,l0,l1]) rfl ⟨none_,⟨none,0,0⟩,⟨none,0,0⟩,[],true,rfl,⟨RdO.none _ _ _ _ _ _,LenT.few (by simp[none_,nodes_mk])⟩,HG9,tree_zero⟩
theorem glev_succ {d:Nat} (hd:d≤99) (hlev:LevP d) (m:Int) (hm:m=((d:Nat):Int)+1) {w:World} {l:List (Addr×Value)} {F:List Nat} {a:Nat} {bs:List UInt8} {bad:Bool} (hbs:bs.length≤100000) (h:InC w l F a bs bad) :
  Calls Try.prog 40 #[.pointer (some ⟨a,0,none⟩),.int .i64 m] w fun e w'=>∃ (t:T) (se sk:SV) (r:List UInt8) (b:Bool),e = .returned (.agg #[.slice se.A se.n se.c,.slice sk.A sk.n sk.c])∧Hid (RdO w' (fun z=>w.heap.size≤z) t se sk∧LenT reachBytes t)∧Hid (Gt a w l F r b w')∧Hid (One treeB (RightT (d+1)) bs t r b):=by
 have HO:=Lib.hid h;have HG0:=Lib.hid (Gt.refl h);have HV:=Lib.hid hlev;have HMM:=Lib.hid hm
 have fm:(m==0)=false:=by rw[beq_eq_false_iff_ne];omega
 have haw:=h.at_.lt;clear h hlev hm;obtain⟨q,hq⟩:∃ q,q=w.heap.size:=⟨_,rfl⟩;obtain⟨p,hp⟩:∃ p,p=q+1:=⟨_,rfl⟩;obtain⟨W,hW⟩:∃ W,W=(w.alloc (.cells #[.int .i64 m] 3)).alloc (.cells #[.slice none 0 0,.slice none 0 0] 27):=⟨_,rfl⟩
 have hszW:W.heap.size=p+1:=by rw[hW,hp,hq];simp
 have HG1:Hid (Gt a w ([(⟨q,0,none⟩,.int .i64 m),(⟨p,0,none⟩,.slice none 0 0),(⟨p,1,none⟩,.slice none 0 0)]++l) ([p]++F) bs bad W):=by
  refine HG0.out.add (by rw[hW];exact ((Below.refl _ _).alloc (Nat.le_refl _) _).alloc (by simp) _) ?_ ?_
  ·intro x hx
   simp only[List.mem_cons,List.not_mem_nil,or_false]at hx
   rcases hx with rfl | rfl | rfl <;> exact⟨by dsimp only;omega,by dsimp only;omega,by rw[hW];(try rw[hp]);rw[hq];go_simp⟩
  ·intro y hy
   simp only[List.mem_cons,List.not_mem_nil,or_false]at hy;subst hy;exact⟨by omega,by rw[hW,hp,hq];simp,fun j=>by rw[hW,hp,hq];go_simp⟩
 have HPW:Hid (w.heap.size≤p):=by unfold Hid;omega
 have HSZ:=Lib.hid hszW;have HW:=Lib.hid hW;have Hq:=Lib.hid hq;have Hp:=Lib.hid hp;clear hp hq hW HG0 hszW;go_enter Try.func40,Try.ntmps40;go_wp2_with fail
 try rw[← HW.out]
 try rw[← Hq.out]
 try rw[← Hp.out]
 refine (gallEn_any hbs HG1.out.1).mono ?_;rintro e w1 ⟨es,ne,ce,Ae,r1,b1,rfl,hle,hoe,HG,H1,hne⟩;have HG2:=Lib.hid (HG1.out.trans HG.out)
 have hr1:r1.length≤100000:=by have:=H1.out.le;omega
 clear HG HG1;go_wp2_with fail;refine (gallKi_any HMM.out (by omega) HV.out hr1 HG2.out.1).mono ?_;rintro e w2 ⟨ks,nk,ck,Ak,kr,r2,b2,rfl,hlk,hok,HG,H2,hnk⟩;have HG3:=Lib.hid (HG2.out.trans HG.out)
 have haW:a<W.heap.size:=by have:=HSZ.out;have:=HPW.out;omega
 have HOE:Hid (Own w2 W.heap.size 37 4 Ae ne ce (entsC es)):=own_gb hoe.out HG.out.2 haW
 have HT:Hid (RdO w2 (fun z=>p+1≤z) (.mk es ks) ⟨Ae,ne,ce⟩ ⟨Ak,nk,ck⟩):=by
  have hsz1:W.heap.size≤w1.heap.size:=by have h1:=HG2.out.2.size;have h2:=HSZ.out;have h3:=HG2.out.f0.1;omega
  refine hok.out.1.tree (fun b hb _=>by have:=HSZ.out;omega) (se:=⟨Ae,ne,ce⟩) hle.out ((RO.of_own HOE.out).mono fun b hb _=>by have:=HSZ.out;omega)
 have HLT:Hid (LenT reachBytes (.mk es ks)):=.mk (by have h1:=hle.out;have h2:=hne.out;unfold reachBytes;omega) (by have h1:=hlk.out;have h2:=hnk.out;unfold reachBytes;omega) hok.out.2;have HS:=Lib.hid (tree_one H1.out H2.out);clear HG HG2 hoe hok;have k0:=HG3.out.c1;have k1:=HG3.out.c2;have f0:=HG3.out.f0.2 0;have f1:=HG3.out.f0.2 1;obtain⟨W9,hW9⟩:∃ W,W=((w2.setCell ⟨p,0,none⟩ (.slice Ae ne ce)).setCell ⟨p,1,none⟩ (.slice Ak nk ck)):=⟨_,rfl⟩
 have HB9:Hid (Below w.heap.size w2 W9):=by unfold Hid;rw[hW9];exact (((Below.refl w.heap.size w2).setCell (p:=⟨p,0,none⟩) HPW.out _).setCell (p:=⟨p,1,none⟩) HPW.out _)
 have HG9:Hid (Gt a w l F r2 b2 W9):=(HG3.out.sub (l2:=l) (F2:=F) (fun x hx=>by simp[hx]) (fun x hx=>by simp[hx])).low HO.out HB9.out
 have HR9:Hid (RdO W9 (fun z=>w.heap.size≤z) (.mk es ks) ⟨Ae,ne,ce⟩ ⟨Ak,nk,ck⟩):=by
  refine RdO.mono (fun z hz _=>by have:=HPW.out;omega) _ (RdO.keep (ok:=fun z=>p+1≤z) (by rw[hW9];simp[World.setCell]) (fun z hz _=>?_) _ HT.out);rw[hW9];exact ((Below.heap_setCell _ ⟨p,1,none⟩ _ z (by dsimp only;omega)).trans (Below.heap_setCell _ ⟨p,0,none⟩ _ z (by dsimp only;omega)))
 have l0:W9.cell? ⟨p,0,none⟩=some (.slice Ae ne ce):=by rw[hW9];go_simp
 have l1:W9.cell? ⟨p,1,none⟩=some (.slice Ak nk ck):=by rw[hW9];go_simp
 have HW9:=Lib.hid hW9;clear hW9;go_wp2;rw[← HW9.out];exact bodyPost_ret (v:=.agg #[.slice Ae ne ce,.slice Ak nk ck]) (by simp[results,Try.results40,go_sem,l0,l1]) rfl ⟨.mk es ks,⟨Ae,ne,ce⟩,⟨Ak,nk,ck⟩,r2,b2,rfl,⟨HR9.out,HLT.out⟩,HG9,HS⟩
theorem glev_any:∀ d:Nat,d≤100→LevP d
 | 0,_=>fun _ _ _ _ _ _ _ h=>glev_zero h
 | d+1,hd=>fun _ _ _ _ _ _ hb h=>glev_succ (by omega) (glev_any d (by omega)) _ (by omega) hb h
end Pk
end Go.Proofs.Ytcbpgemiffmieaa
set_option maxRecDepth 100000
set_option maxHeartbeats 4000000
namespace Go.Proofs.Ytcbpgemiffmieaa
open Go.ChangeShapes Go.WideShapes Go.ChangeAt Go.RowKit
namespace Pk
open Tr Cx Sp Rw Codec
theorem gstands_any (z:Bool) {w:World} {l:List (Addr×Value)} {F:List Nat} {a:Nat} {bs:List UInt8} {bad:Bool} (h:InC w l F a bs bad) :
  Calls Try.prog 26 #[.pointer (some ⟨a,0,none⟩),.bool z] w fun e w'=>e = .returned (.bool (z && !bad))∧Hid (Gt a w l F (if z && !bad then bs else []) (!(z && !bad)) w'):=by
 have HO:=Lib.hid h;have hin:=h.at_;have hn:=h.at_.none_;have HG0:=Lib.hid (Gt.refl h);clear h
 cases z with
 | false=>
  go_enter Try.func26,Try.ntmps26;go_wp2_with fail;refine (gfail_any HO.out).mono ?_;rintro e w1 ⟨rfl,HG⟩;go_wp2;go_ret;exact⟨rfl,HG⟩
 | true=>
  go_enter Try.func26,Try.ntmps26
  cases bad with
  | true=>
   obtain rfl:=hn rfl;go_wp2_with (go_at_call 44;refine (bad_any hin).mono ?_;rintro e w9 ⟨rfl,rfl⟩);go_ret;exact⟨rfl,HG0⟩
  | false=>
   go_wp2_with (go_at_call 44;refine (bad_any hin).mono ?_;rintro e w9 ⟨rfl,rfl⟩);go_ret;exact⟨rfl,HG0⟩
theorem getctx_any {w:World} {l:List (Addr×Value)} {F:List Nat} {a:Nat} {bs:List UInt8} {bad:Bool} (hbs:bs.length≤100000) (h:InC w l F a bs bad) :
  Calls Try.prog 25 #[.pointer (some ⟨a,0,none⟩)] w fun e w'=>∃ (u:List S3) (n c:Nat) (A:Option Addr) (r:List UInt8) (b:Bool),e = .returned (.slice A n c)∧Hid (u.length=n)∧Hid (Own w' w.heap.size 40 3 A n c (spsC u))∧Hid (Gt a w l F r b w')∧Hid (Got ctxB RightC [] bs u r b):=by
 have HO:=Lib.hid h;have haw:=h.at_.lt;clear h;go_enter Try.func25,Try.ntmps25;go_wp2_with fail;refine (gallSp_any hbs HO.out).mono ?_;rintro e w1 ⟨xs,n,c,A,r,b,rfl,hl,ho,HG,H1,hn⟩;obtain⟨z,hz⟩:∃ z,rightCB xs=z:=⟨_,rfl⟩;have HC:=Lib.hid (rightC_any xs n A c w1 hl.out (by have:=hn.out;omega) ho.out.rd z hz);have HZ:=Lib.hid hz;clear hz;go_wp2_with fail;refine HC.out.mono ?_;rintro e w2 ⟨rfl,hb2⟩;have HG2:=Lib.hid (HG.out.later hb2);have HO2:=Lib.hid (own_later ho.out hb2);clear HG ho hb2 HC;go_wp2_with fail;refine (gstands_any z HG2.out.1).mono ?_;rintro e w3 ⟨rfl,HG⟩;have HG3:=Lib.hid (HG2.out.trans HG.out);have HO3:=Lib.hid (own_gb HO2.out HG.out.2 haw);obtain⟨ok,hok⟩:∃ k,(z && !b)=k:=⟨_,rfl⟩
 have HS:∀ u,u=(if ok then xs else [])→Hid (Got ctxB RightC [] bs u (if ok then r else []) (!ok)):=fun u hu=>Got.of pre_ctx (R:=fun l=>∀ y∈l,SpanR y) H1.out (fun y hy s hs=>right_spR hy hs) ⟨fun h=>of_rightCB (by rw[HZ.out];exact h),fun h=>by rw[← HZ.out];exact rightCB_true h⟩ ok hok hu
 rw[hok]at HG3 ⊢;clear HG HG2 HO2 H1 hok
 cases ok with
 | true=>
  have HS1:=HS xs rfl;clear HS;go_wp2;go_ret;exact⟨xs,n,c,A,r,false,rfl,hl,HO3,HG3,HS1⟩
 | false=>
  have HS1:=HS [] rfl;clear HS;go_wp2;go_ret;exact⟨[],0,0,none,[],true,rfl,rfl,⟨World.ownsRow_nil _ _ _ _,by simp[spsC]⟩,HG3,HS1⟩
end Pk
end Go.Proofs.Ytcbpgemiffmieaa
namespace Go.Proofs.Ytcbpgemiffmieaa
open Go.ChangeShapes Go.WideShapes Go.ChangeAt Go.RowKit
namespace Pk
open Tr Cx Sp Rw Codec
theorem rdO_gb {w w':World} {ok:Nat→Prop} {t:T} {se sk:SV} {a:Nat} (h:RdO w ok t se sk) (hg:w.grownBy w' (some a)) (ha:∀ z,ok z→z≠a):RdO w' ok t se sk:=RdO.keep hg.size (fun b hb hlt=>hg.block b hlt (fun e=>ha b hb (by injection e))) t h
set_option maxRecDepth 100000 in
set_option maxHeartbeats 4000000 in
theorem gettree_any {w:World} {l:List (Addr×Value)} {F:List Nat} {a:Nat} {bs:List UInt8} {bad:Bool} (hbs:bs.length≤100000) (h:InC w l F a bs bad) :
  Calls Try.prog 24 #[.pointer (some ⟨a,0,none⟩)] w fun e w'=>∃ (u:T) (se sk:SV) (r:List UInt8) (b:Bool),e = .returned (.agg #[.slice se.A se.n se.c,.slice sk.A sk.n sk.c])∧Hid (RdO w' (fun z=>w.heap.size≤z) u se sk)∧Hid (Gt a w l F r b w')∧Hid (Got treeB (RightT 5) none_ bs u r b):=by
 have HO:=Lib.hid h;have HG0:=Lib.hid (Gt.refl h);have haw:=h.at_.lt;clear h;obtain⟨p,hp⟩:∃ p,p=w.heap.size:=⟨_,rfl⟩;obtain⟨W,hW⟩:∃ W,W=w.alloc (.cells #[.slice none 0 0,.slice none 0 0] 27):=⟨_,rfl⟩
 have HG1:Hid (Gt a w ([(⟨p,0,none⟩,.slice none 0 0),(⟨p,1,none⟩,.slice none 0 0)]++l) ([p]++F) bs bad W):=by
  refine HG0.out.add (by rw[hW];exact Dt.box_below _ _ _) ?_ ?_
  ·intro x hx
   simp only[List.mem_cons,List.not_mem_nil,or_false]at hx
   rcases hx with rfl | rfl <;> exact⟨by dsimp only;omega,by rw[hW];simp <;> omega,by rw[hW,hp];go_simp⟩
  ·intro q hq
   simp only[List.mem_cons,List.not_mem_nil,or_false]at hq;subst hq;exact⟨by omega,by rw[hW,hp];simp,fun j=>by rw[hW,hp];go_simp⟩
 have HPW:Hid (w.heap.size≤p):=by unfold Hid;omega
 have hap:a<p:=by omega
 have hszW:W.heap.size=p+1:=by rw[hW,hp];simp
 have HSZ:=Lib.hid hszW;have HW:=Lib.hid hW;have Hp:=Lib.hid hp;clear hp hW HG0 hszW;go_enter Try.func24,Try.ntmps24;go_wp2_with fail
 try rw[← HW.out]
 try rw[← Hp.out]
 have HC:Calls Try.prog 40 #[.pointer (some ⟨a,0,none⟩),.int .i64 5] W _:=glev_any 5 (by omega) W _ _ a bs bad hbs HG1.out.1;refine HC.mono ?_;rintro e w1 ⟨t,⟨Ae,ne,ce⟩,⟨Ak,nk,ck⟩,r,b,rfl,HRT,HG,H1⟩;have HGN:=Lib.hid (HG1.out.trans HG.out);clear HG HG1 HC;have HG:=Lib.hid HGN.out;have HT:Hid (RdO w1 (fun z=>p+1≤z) t ⟨Ae,ne,ce⟩ ⟨Ak,nk,ck⟩):=RdO.mono (fun z hz _=>by have:=HSZ.out;omega) _ HRT.out.1;have HLT:=Lib.hid HRT.out.2;clear HRT HGN;obtain⟨s,hs⟩:∃ s,s=w1.heap.size:=⟨_,rfl⟩;obtain⟨WS,hWS⟩:∃ W,W=w1.alloc (.cells #[.slice Ae ne ce,.slice Ak nk ck] 27):=⟨_,rfl⟩
 have hbS:Below w1.heap.size w1 WS:=by rw[hWS];exact Dt.box_below _ _ _
 have HGS:Hid (Gt a w ([(⟨s,0,none⟩,.slice Ae ne ce),(⟨s,1,none⟩,.slice Ak nk ck)]++([(⟨p,0,none⟩,.slice none 0 0),(⟨p,1,none⟩,.slice none 0 0)]++l)) ([]++([p]++F)) r b WS):=by
  refine HG.out.add hbS ?_ (by simp);intro x hx;simp only[List.mem_cons,List.not_mem_nil,or_false]at hx
  rcases hx with rfl | rfl <;> exact⟨by dsimp only;omega,by rw[hWS];simp <;> omega,by rw[hWS,hs];go_simp⟩
 have hps:p<s:=by have h1:=HG.out.f0.1;omega
 have hsp:¬s=p:=by omega
 have hpsn:¬p=s:=by omega
 have HT9:Hid (RdO WS (fun z=>p+1≤z) t ⟨Ae,ne,ce⟩ ⟨Ak,nk,ck⟩):=HT.out.later hbS;clear HT;have HT:=Lib.hid HT9.out;clear HT9;have HWS:=Lib.hid hWS;have Hs:=Lib.hid hs;clear hs hWS hbS HG;obtain⟨z,hz⟩:∃ z,rightB 5 t=z:=⟨_,rfl⟩;have HC:=Lib.hid (rightT_any t Ae Ak ne nk ce ck WS HLT.out (RdO.rd _ HT.out));rw[hz]at HC;have HZ:=Lib.hid hz;clear hz;go_wp2_with fail;rw[← HWS.out]
 try rw[← Hs.out]
 refine (HC.out).mono ?_;rintro e v1 ⟨rfl,hb1⟩;have HG:=Lib.hid (HGS.out.later hb1);have HT9:Hid (RdO v1 (fun z=>p+1≤z) t ⟨Ae,ne,ce⟩ ⟨Ak,nk,ck⟩):=HT.out.later hb1;clear HT;have HT:=Lib.hid HT9.out;clear HT9;clear HGS hb1;go_wp2_with fail;refine (gstands_any z HG.out.1).mono ?_;rintro e v2 ⟨rfl,HG2⟩;have HG3:=Lib.hid (HG.out.trans HG2.out);have HT9:Hid (RdO v2 (fun z=>p+1≤z) t ⟨Ae,ne,ce⟩ ⟨Ak,nk,ck⟩):=rdO_gb HT.out HG2.out.2 (fun z hz=>by omega);clear HT;have HT:=Lib.hid HT9.out;clear HT9;obtain⟨ok,hok⟩:∃ k,(z && !b)=k:=⟨_,rfl⟩
 have HS:∀ u,u=(if ok then t else none_)→Hid (Got treeB (RightT 5) none_ bs u (if ok then r else []) (!ok)):=fun u hu=>Got.of pre_tree H1.out (fun y hy=>hy) (by rw[← HZ.out];exact rightB_iff) ok hok hu
 rw[hok]at HG3 ⊢;clear HG HG2 hok
 cases ok with
 | true=>
  have k0:=HG3.out.cell (p:=⟨p,0,none⟩) (v:=.slice none 0 0) (by simp);have k1:=HG3.out.cell (p:=⟨p,1,none⟩) (v:=.slice none 0 0) (by simp);have j0:=HG3.out.cell (p:=⟨s,0,none⟩) (v:=.slice Ae ne ce) (by simp);have j1:=HG3.out.cell (p:=⟨s,1,none⟩) (v:=.slice Ak nk ck) (by simp);have f0:=(HG3.out.1.free p (by simp)).1.2 0;have f1:=(HG3.out.1.free p (by simp)).1.2 1;obtain⟨W9,hW9⟩:∃ W,W=((v2.setCell ⟨p,0,none⟩ (.slice Ae ne ce)).setCell ⟨p,1,none⟩ (.slice Ak nk ck)):=⟨_,rfl⟩
  have HB9:Hid (Below w.heap.size v2 W9):=by unfold Hid;rw[hW9];exact (((Below.refl w.heap.size v2).setCell (p:=⟨p,0,none⟩) HPW.out _).setCell (p:=⟨p,1,none⟩) HPW.out _)
  have HG9:Hid (Gt a w l F r false W9):=(HG3.out.sub (l2:=l) (F2:=F) (fun x hx=>List.mem_append_right _ (List.mem_append_right _ hx)) (fun x hx=>List.mem_append_right _ (List.mem_append_right _ hx))).low HO.out HB9.out
  have HTW:Hid (RdO W9 (fun z=>w.heap.size≤z) t ⟨Ae,ne,ce⟩ ⟨Ak,nk,ck⟩):=by
   refine RdO.mono (fun z hz _=>by have:=HPW.out;omega) _ (RdO.keep (ok:=fun z=>p+1≤z) (by rw[hW9];simp[World.setCell]) (fun z hz _=>?_) _ HT.out);rw[hW9];exact ((Below.heap_setCell _ ⟨p,1,none⟩ _ z (by dsimp only;omega)).trans (Below.heap_setCell _ ⟨p,0,none⟩ _ z (by dsimp only;omega)))
  have l0:W9.cell? ⟨p,0,none⟩=some (.slice Ae ne ce):=by rw[hW9];go_simp
  have l1:W9.cell? ⟨p,1,none⟩=some (.slice Ak nk ck):=by rw[hW9];go_simp
  have HW9:=Lib.hid hW9;clear hW9;have HS1:=HS _ rfl;clear HS;go_wp2;rw[← HW9.out];exact bodyPost_ret (v:=.agg #[.slice Ae ne ce,.slice Ak nk ck]) (by simp[results,Try.results24,go_sem,l0,l1]) rfl ⟨t,⟨Ae,ne,ce⟩,⟨Ak,nk,ck⟩,r,false,rfl,HTW,HG9,HS1⟩
 | false=>
  have k0:=HG3.out.cell (p:=⟨p,0,none⟩) (v:=.slice none 0 0) (by simp);have k1:=HG3.out.cell (p:=⟨p,1,none⟩) (v:=.slice none 0 0) (by simp);have j0:=HG3.out.cell (p:=⟨s,0,none⟩) (v:=.slice Ae ne ce) (by simp);have j1:=HG3.out.cell (p:=⟨s,1,none⟩) (v:=.slice Ak nk ck) (by simp);have f0:=(HG3.out.1.free p (by simp)).1.2 0;have f1:=(HG3.out.1.free p (by simp)).1.2 1;obtain⟨W9,hW9⟩:∃ W,W=((v2.setCell ⟨p,0,none⟩ (.slice none 0 0)).setCell ⟨p,1,none⟩ (.slice none 0 0)):=⟨_,rfl⟩
  have HB9:Hid (Below w.heap.size v2 W9):=by unfold Hid;rw[hW9];exact (((Below.refl w.heap.size v2).setCell (p:=⟨p,0,none⟩) HPW.out _).setCell (p:=⟨p,1,none⟩) HPW.out _)
  have HG9:Hid (Gt a w l F [] true W9):=(HG3.out.sub (l2:=l) (F2:=F) (fun x hx=>List.mem_append_right _ (List.mem_append_right _ hx)) (fun x hx=>List.mem_append_right _ (List.mem_append_right _ hx))).low HO.out HB9.out
  have l0:W9.cell? ⟨p,0,none⟩=some (.slice none 0 0):=by rw[hW9];go_simp
  have l1:W9.cell? ⟨p,1,none⟩=some (.slice none 0 0):=by rw[hW9];go_simp
  have HW9:=Lib.hid hW9;clear hW9;have HS1:=HS _ rfl;clear HS;go_wp2;rw[← HW9.out];exact bodyPost_ret (v:=.agg #[.slice none 0 0,.slice none 0 0]) (by simp[results,Try.results24,go_sem,l0,l1]) rfl ⟨none_,⟨none,0,0⟩,⟨none,0,0⟩,[],true,rfl,RdO.none _ _ _ _ _ _,HG9,HS1⟩
end Pk
end Go.Proofs.Ytcbpgemiffmieaa
namespace Go.Proofs.Ytcbpgemiffmieaa
open Go.ChangeShapes Go.WideShapes Go.ChangeAt Go.RowKit
namespace Cs
open Tr Cx Sp Rw
end Cs
end Go.Proofs.Ytcbpgemiffmieaa
namespace Go.Proofs.Ytcbpgemiffmieaa
open Go.ChangeShapes Go.WideShapes Go.ChangeAt Go.RowKit
namespace Tr
open Sp Rw
end Tr
end Go.Proofs.Ytcbpgemiffmieaa
namespace Go.Proofs.Ytcbpgemiffmieaa
open Go.ChangeShapes Go.WideShapes Go.ChangeAt Go.RowKit
namespace Tr
open Sp Rw
section
variable {α:Type} {lt:α→α→Prop} {ab:α→Prop} {m:List α} {x b:α} {r:Option α}
end
theorem _root_.Go.Proofs.Ytcbpgemiffmieaa.Free.low {g B:Nat} {w w':World} (h:Free g w) (hb:Below B w w') (hg:g<B) (hs:w.heap.size≤w'.heap.size):Free g w':=⟨Nat.lt_of_lt_of_le h.1 hs,fun j=>(hb.frozen (p:=⟨g,j,none⟩) hg).trans (h.2 j)⟩
def lastK (ks:List (ByteArray×T)) (j:Nat):ByteArray:=match j with | 0=>⟨#[]⟩ | j+1=>((ks.map fun x=>x.1)[j]?).getD ⟨#[]⟩
end Tr
end Go.Proofs.Ytcbpgemiffmieaa
namespace Go.Proofs.Ytcbpgemiffmieaa
open Go.ChangeShapes Go.WideShapes Go.ChangeAt Go.RowKit
namespace Tr
open Sp Rw
end Tr
end Go.Proofs.Ytcbpgemiffmieaa
namespace Go.Proofs.Ytcbpgemiffmieaa
open Go.ChangeShapes Go.WideShapes Go.ChangeAt Go.RowKit
namespace Pk
open Tr Cx Sp Rw Codec
theorem nodes_le:∀ t:T,nodes t≤(treeB t).length:=by
 intro t
 induction t using T.ind with
 | h es ks ih=>
  rw[treeB_mk,nodes_mk];unfold listB;have g1:=list_len (f:=entB) (l:=es) fun a _=>ent_pos a
  have g4:∀ l:List (ByteArray×T),(∀ k∈l,k∈ks)→l.length+(l.map fun k=>nodes k.2).sum≤(l.flatMap kidB).length:=by
   intro l
   induction l with
   | nil=>intro _;simp
   | cons k l il=>
    intro hk;have b1:=ih k (hk k (List.mem_cons_self));have b3:=il fun q hq=>hk q (List.mem_cons_of_mem _ hq)
    have b4:(kidB k).length=(txtB k.1).length+(treeB k.2).length:=by unfold kidB;rw[List.length_append]
    have b5:1≤(txtB k.1).length:=by unfold txtB;have:=numB_pos k.1.size;rw[List.length_append];omega
    rw[List.flatMap_cons,List.length_append,List.length_cons,List.map_cons,List.sum_cons];omega
  have g5:=g4 ks fun _ h=>h;simp only[List.length_append];omega
end Pk
end Go.Proofs.Ytcbpgemiffmieaa
set_option maxRecDepth 100000
set_option maxHeartbeats 4000000
namespace Go.Proofs.Ytcbpgemiffmieaa
open Go.ChangeShapes Go.WideShapes Go.ChangeAt Go.RowKit
namespace Pk
open Tr Cx Sp Rw Codec
theorem spB_def (x0 x1 x2:Int):spB (x0,x1,x2)=numB x0++(numB x1++numB x2):=by unfold spB;rw[List.append_assoc]
theorem entB_def (ea en:Int) (s:ByteArray) (ev:Int):entB ⟨ea,en,s,ev⟩=numB ea++(numB en++(txtB s++numB ev)):=by unfold entB;simp only[List.append_assoc]
theorem putsp_any (x0 x1 x2:Int) {w:World} {l:List (Addr×Value)} {B a q:Nat} {g:Option Nat} {bs:List UInt8} {long:Bool} (h0:I64 x0) (h1:I64 x1) (h2:I64 x2) (h:OutC w ((⟨q,0,none⟩,.pointer (some ⟨a,0,none⟩))::l) B a g bs long) :
  Calls Try.prog 39 #[.agg #[.int .i64 x0,.int .i64 x1,.int .i64 x2],.pointer (some ⟨q,0,none⟩)] w fun e w'=>e = .returned (.tuple #[])∧Pt B a g bs long w ((⟨q,0,none⟩,.pointer (some ⟨a,0,none⟩))::l) (spB (x0,x1,x2)) w':=by
 have HO:=Lib.hid h;have HP:=Lib.hid (Pt.refl h)

 clear h;obtain⟨p,hp⟩:∃ p,p=w.heap.size:=⟨_,rfl⟩;obtain⟨W,hW⟩:∃ W,W=w.alloc (.cells #[.int .i64 x0,.int .i64 x1,.int .i64 x2] 40):=⟨_,rfl⟩
 have HP1:Hid (Pt B a g bs long w ([(⟨p,0,none⟩,.int .i64 x0),(⟨p,1,none⟩,.int .i64 x1),(⟨p,2,none⟩,.int .i64 x2)]++((⟨q,0,none⟩,.pointer (some ⟨a,0,none⟩))::l)) [] W):=by
  refine HP.out.add (by rw[hW];exact Dt.box_below _ _ _) ?_;intro x hx;simp only[List.mem_cons,List.not_mem_nil,or_false]at hx
  rcases hx with rfl | rfl | rfl <;> exact⟨by dsimp only;omega,by rw[hW];simp <;> omega,by rw[hW,hp];go_simp⟩
 have Hp:=Lib.hid hp;have HW:=Lib.hid hW;clear hp hW;have kq:=HP1.out.c3;rw[HW.out]at kq;clear HP;go_enter Try.func39,Try.ntmps39;go_wp2_with fail;rw[← HW.out,← Hp.out];clear kq;refine (HP1.out.then (fun _ _ _ h=>pnum_any x0 h0 h)).mono ?_;rintro e w1 ⟨rfl,HP2⟩;have k0:=HP2.out.c0;have k1:=HP2.out.c1;have k2:=HP2.out.c2;have k3:=HP2.out.c3;clear HP1;go_wp2_with fail;refine (HP2.out.then (fun _ _ _ h=>pnum_any x1 h1 h)).mono ?_;rintro e w2 ⟨rfl,HP3⟩;clear k0;clear k1;clear k2;clear k3;have k0:=HP3.out.c0;have k1:=HP3.out.c1;have k2:=HP3.out.c2;have k3:=HP3.out.c3;clear HP2;go_wp2_with fail;refine (HP3.out.then (fun _ _ _ h=>pnum_any x2 h2 h)).mono ?_;rintro e w3 ⟨rfl,HP4⟩;clear k0;clear k1;clear k2;clear k3;have k0:=HP4.out.c0;have k1:=HP4.out.c1;have k2:=HP4.out.c2
 have k3:=HP4.out.c3;clear HP3;go_wp2
 go_end0
 refine⟨rfl,?_⟩;have h9:=HP4.out.sub (l2:=(⟨q,0,none⟩,.pointer (some ⟨a,0,none⟩))::l) (fun x hx=>List.mem_append_right _ hx)
 simpa only [List.nil_append,List.append_assoc,spB_def] using h9
theorem puten_any (ea en:Int) (s:ByteArray) (ev:Int) {w:World} {l:List (Addr×Value)} {B a q:Nat} {g:Option Nat} {bs:List UInt8} {long:Bool} (h0:I64 ea) (h1:I64 en) (h2:s.size≤maxLen) (h3:I64 ev) (h:OutC w ((⟨q,0,none⟩,.pointer (some ⟨a,0,none⟩))::l) B a g bs long) :
  Calls Try.prog 33 #[.agg #[.int .i64 ea,.int .i64 en,.string s,.int .i64 ev],.pointer (some ⟨q,0,none⟩)] w fun e w'=>e = .returned (.tuple #[])∧Pt B a g bs long w ((⟨q,0,none⟩,.pointer (some ⟨a,0,none⟩))::l) (entB ⟨ea,en,s,ev⟩) w':=by
 have HO:=Lib.hid h;have HP:=Lib.hid (Pt.refl h)

 clear h;obtain⟨p,hp⟩:∃ p,p=w.heap.size:=⟨_,rfl⟩;obtain⟨W,hW⟩:∃ W,W=w.alloc (.cells #[.int .i64 ea,.int .i64 en,.string s,.int .i64 ev] 37):=⟨_,rfl⟩
 have HP1:Hid (Pt B a g bs long w ([(⟨p,0,none⟩,.int .i64 ea),(⟨p,1,none⟩,.int .i64 en),(⟨p,2,none⟩,.string s),(⟨p,3,none⟩,.int .i64 ev)]++((⟨q,0,none⟩,.pointer (some ⟨a,0,none⟩))::l)) [] W):=by
  refine HP.out.add (by rw[hW];exact Dt.box_below _ _ _) ?_;intro x hx;simp only[List.mem_cons,List.not_mem_nil,or_false]at hx
  rcases hx with rfl | rfl | rfl | rfl <;> exact⟨by dsimp only;omega,by rw[hW];simp <;> omega,by rw[hW,hp];go_simp⟩
 have Hp:=Lib.hid hp;have HW:=Lib.hid hW;clear hp hW;have kq:=HP1.out.c4;rw[HW.out]at kq;clear HP;go_enter Try.func33,Try.ntmps33;go_wp2_with fail;rw[← HW.out,← Hp.out];clear kq;refine (HP1.out.then (fun _ _ _ h=>pnum_any ea h0 h)).mono ?_;rintro e w1 ⟨rfl,HP2⟩;have k0:=HP2.out.c0;have k1:=HP2.out.c1;have k2:=HP2.out.c2;have k3:=HP2.out.c3;have k4:=HP2.out.c4;clear HP1;go_wp2_with fail;refine (HP2.out.then (fun _ _ _ h=>pnum_any en h1 h)).mono ?_;rintro e w2 ⟨rfl,HP3⟩;clear k0;clear k1;clear k2;clear k3;clear k4;have k0:=HP3.out.c0;have k1:=HP3.out.c1;have k2:=HP3.out.c2;have k3:=HP3.out.c3;have k4:=HP3.out.c4;clear HP2;go_wp2_with fail;refine (HP3.out.then (fun _ _ _ h=>ptext_any s h2 h)).mono ?_;rintro e w3 ⟨rfl,HP4⟩;clear k0;clear k1;clear k2;clear k3;clear k4
 have k0:=HP4.out.c0;have k1:=HP4.out.c1;have k2:=HP4.out.c2;have k3:=HP4.out.c3;have k4:=HP4.out.c4;clear HP3;go_wp2_with fail;refine (HP4.out.then (fun _ _ _ h=>pnum_any ev h3 h)).mono ?_;rintro e w4 ⟨rfl,HP5⟩;clear k0;clear k1;clear k2;clear k3;clear k4;have k0:=HP5.out.c0;have k1:=HP5.out.c1;have k2:=HP5.out.c2;have k3:=HP5.out.c3;have k4:=HP5.out.c4;clear HP4;go_wp2
 go_end0
 refine⟨rfl,?_⟩;have h9:=HP5.out.sub (l2:=(⟨q,0,none⟩,.pointer (some ⟨a,0,none⟩))::l) (fun x hx=>List.mem_append_right _ hx)
 simpa only [List.nil_append,List.append_assoc,entB_def] using h9
theorem putAllSp_any (xs:List S3) (n c:Nat) (A:Option Addr) {w:World} {l:List (Addr×Value)} {B a:Nat} {q:Nat} {g:Option Nat} {bs:List UInt8} {long:Bool} (hl:xs.length=n) (hn:n≤100000) (hx:∀ s∈xs,SpI s) (hr:Rd w B 3 A n c (spsC xs)) (h:OutC w ((⟨q,0,none⟩,.pointer (some ⟨a,0,none⟩))::l) B a g bs long) :
  Calls Try.prog 38 #[.pointer (some ⟨a,0,none⟩),.slice A n c,.func (.func 39) #[] #[.pointer (some ⟨q,0,none⟩)]] w fun e w'=>e = .returned (.tuple #[])∧Pt B a g bs long w ((⟨q,0,none⟩,.pointer (some ⟨a,0,none⟩))::l) (listB spB xs) w':=by
 have HO:=Lib.hid h;have HP:=Lib.hid (Pt.refl h);have HL:=Lib.hid hl;have HR:=Lib.hid hr;have HX:=Lib.hid hx;have hn64:I64 (n:Int):=⟨by omega,by omega⟩;clear h hl hr hx;go_enter Try.func38,Try.ntmps38;go_wp2_with fail;refine (HP.out.then (fun _ _ _ h=>pnum_any (n:Int) hn64 h)).mono ?_;rintro e w1 ⟨rfl,HP1⟩;rw[List.nil_append]at HP1;clear HP;go_wp2_with fail
 go_loopw [14] (fun i wr=>∃ (k:Nat),i = .int .i64 k∧k≤n∧Hid (Pt B a g bs long w ((⟨q,0,none⟩,.pointer (some ⟨a,0,none⟩))::l) (numB n++(xs.take k).flatMap spB) wr)) (fun i _=>n-(intOf i).toNat)
 case atStart=>exact⟨0,rfl,Nat.zero_le _,by simpa using HP1⟩
 case round=>
  obtain⟨k,rfl,hk,HP⟩:=hrel
  by_cases hlt:k<n
  ·have hkl:k<xs.length:=by rw[HL.out];exact hlt
   have hbw:=HP.out.below HO.out;obtain⟨b,o,rfl,hb,hc⟩:=rd_span (l:=xs) HR.out (by omega);obtain⟨c0,c1,c2⟩:=hc k hkl;have c0:=(hbw.cell (p:=⟨b,o+k*3,none⟩) hb).trans c0;have c1:=(hbw.cell (p:=⟨b,o+k*3+1,none⟩) hb).trans c1;have c2:=(hbw.cell (p:=⟨b,o+k*3+2,none⟩) hb).trans c2;clear hc;have hsuc:=flat_take spB hkl;obtain⟨x,hxe⟩:∃ x,x=xs[k]:=⟨_,rfl⟩;have HE:=HX.out x (hxe▸List.getElem_mem hkl);have HMEM:Hid (x=xs[k]):=hxe;rw[← hxe]at hsuc;rw[← hxe]at c0 c1 c2
   have HSUC:Hid (numB n++(xs.take (k+1)).flatMap spB=numB n++(xs.take k).flatMap spB++spB x):=by
    unfold Hid;rw[hsuc];simp only[List.append_assoc]
   obtain⟨x0,x1,x2⟩:=x;dsimp only at c0 c1 c2;have HE:=Lib.hid HE;have HBS:Hid (B≤wr.heap.size):=Nat.le_trans HO.out.bw hbw.size;clear hsuc hxe hbw HMEM;obtain⟨p,hp⟩:∃ p,p=wr.heap.size:=⟨_,rfl⟩;obtain⟨W,hW⟩:∃ W,W=wr.alloc (.cells #[.int .i64 x0,.int .i64 x1,.int .i64 x2] 40):=⟨_,rfl⟩;have HPW:=Lib.hid (HP.out.later (w':=W) (by rw[hW];exact Dt.box_below _ _ _))
   have HWB:Hid (Below wr.heap.size wr W):=by unfold Hid;rw[hW];exact Dt.box_below _ _ _
   have HW:=Lib.hid hW;have Hp:=Lib.hid hp;clear hW hp;go_wp2_with fail
   try rw[← HW.out]
   refine (HPW.out.then (fun g' _ _ h=>putsp_any x0 x1 x2 HE.out.1 HE.out.2.1 HE.out.2.2 h)).mono ?_;rintro e w2 ⟨rfl,HP2⟩;rw[← HSUC.out]at HP2;go_wp2_with fail;go_roundw
   case rel=>exact⟨k+1,by go_num,by omega,HP2⟩
   case measure=>simp[intOf];omega
  ·have hke:k=n:=by omega
   have HF:Hid (Pt B a g bs long w ((⟨q,0,none⟩,.pointer (some ⟨a,0,none⟩))::l) (listB spB xs) wr):=by
    have h1:=HP.out;rw[hke,← HL.out,List.take_length]at h1;exact h1
   clear HP;go_wp2
   go_end0
   exact⟨rfl,HF.out⟩
def EnI (e:E):Prop:=I64 e.a∧I64 e.n∧e.s.size≤maxLen∧I64 e.v
theorem putAllEn_any (xs:List E) (n c:Nat) (A:Option Addr) {w:World} {l:List (Addr×Value)} {B a:Nat} {q:Nat} {g:Option Nat} {bs:List UInt8} {long:Bool} (hl:xs.length=n) (hn:n≤100000) (hx:∀ s∈xs,EnI s) (hr:Rd w B 4 A n c (entsC xs)) (h:OutC w ((⟨q,0,none⟩,.pointer (some ⟨a,0,none⟩))::l) B a g bs long) :
  Calls Try.prog 32 #[.pointer (some ⟨a,0,none⟩),.slice A n c,.func (.func 33) #[] #[.pointer (some ⟨q,0,none⟩)]] w fun e w'=>e = .returned (.tuple #[])∧Pt B a g bs long w ((⟨q,0,none⟩,.pointer (some ⟨a,0,none⟩))::l) (listB entB xs) w':=by
 have HO:=Lib.hid h;have HP:=Lib.hid (Pt.refl h);have HL:=Lib.hid hl;have HR:=Lib.hid hr;have HX:=Lib.hid hx;have hn64:I64 (n:Int):=⟨by omega,by omega⟩;clear h hl hr hx;go_enter Try.func32,Try.ntmps32;go_wp2_with fail;refine (HP.out.then (fun _ _ _ h=>pnum_any (n:Int) hn64 h)).mono ?_;rintro e w1 ⟨rfl,HP1⟩;rw[List.nil_append]at HP1;clear HP;go_wp2_with fail
 go_loopw [14] (fun i wr=>∃ (k:Nat),i = .int .i64 k∧k≤n∧Hid (Pt B a g bs long w ((⟨q,0,none⟩,.pointer (some ⟨a,0,none⟩))::l) (numB n++(xs.take k).flatMap entB) wr)) (fun i _=>n-(intOf i).toNat)
 case atStart=>exact⟨0,rfl,Nat.zero_le _,by simpa using HP1⟩
 case round=>
  obtain⟨k,rfl,hk,HP⟩:=hrel
  by_cases hlt:k<n
  ·have hkl:k<xs.length:=by rw[HL.out];exact hlt
   have hbw:=HP.out.below HO.out;obtain⟨b,o,rfl,hb,hc⟩:=rd_elem entC_len (l:=xs) HR.out (by omega);have c0:=hc k hkl 0 _ rfl;have c1:=hc k hkl 1 _ rfl;have c2:=hc k hkl 2 _ rfl;have c3:=hc k hkl 3 _ rfl;have c0:=(hbw.cell (p:=⟨b,o+k*4,none⟩) hb).trans c0;have c1:=(hbw.cell (p:=⟨b,o+k*4+1,none⟩) hb).trans c1;have c2:=(hbw.cell (p:=⟨b,o+k*4+2,none⟩) hb).trans c2;have c3:=(hbw.cell (p:=⟨b,o+k*4+3,none⟩) hb).trans c3;clear hc;have hsuc:=flat_take entB hkl;obtain⟨x,hxe⟩:∃ x,x=xs[k]:=⟨_,rfl⟩;have HE:=HX.out x (hxe▸List.getElem_mem hkl);have HMEM:Hid (x=xs[k]):=hxe;rw[← hxe]at hsuc;rw[← hxe]at c0 c1 c2 c3
   have HSUC:Hid (numB n++(xs.take (k+1)).flatMap entB=numB n++(xs.take k).flatMap entB++entB x):=by
    unfold Hid;rw[hsuc];simp only[List.append_assoc]
   obtain⟨ea,en,s,ev⟩:=x;dsimp only at c0 c1 c2 c3;have HE:=Lib.hid HE;have HBS:Hid (B≤wr.heap.size):=Nat.le_trans HO.out.bw hbw.size;clear hsuc hxe hbw HMEM;obtain⟨p,hp⟩:∃ p,p=wr.heap.size:=⟨_,rfl⟩;obtain⟨W,hW⟩:∃ W,W=wr.alloc (.cells #[.int .i64 ea,.int .i64 en,.string s,.int .i64 ev] 37):=⟨_,rfl⟩;have HPW:=Lib.hid (HP.out.later (w':=W) (by rw[hW];exact Dt.box_below _ _ _))
   have HWB:Hid (Below wr.heap.size wr W):=by unfold Hid;rw[hW];exact Dt.box_below _ _ _
   have HW:=Lib.hid hW;have Hp:=Lib.hid hp;clear hW hp;go_wp2_with fail
   try rw[← HW.out]
   refine (HPW.out.then (fun g' _ _ h=>puten_any ea en s ev HE.out.1 HE.out.2.1 HE.out.2.2.1 HE.out.2.2.2 h)).mono ?_;rintro e w2 ⟨rfl,HP2⟩;rw[← HSUC.out]at HP2;go_wp2_with fail;go_roundw
   case rel=>exact⟨k+1,by go_num,by omega,HP2⟩
   case measure=>simp[intOf];omega
  ·have hke:k=n:=by omega
   have HF:Hid (Pt B a g bs long w ((⟨q,0,none⟩,.pointer (some ⟨a,0,none⟩))::l) (listB entB xs) wr):=by
    have h1:=HP.out;rw[hke,← HL.out,List.take_length]at h1;exact h1
   clear HP;go_wp2
   go_end0
   exact⟨rfl,HF.out⟩
end Pk
end Go.Proofs.Ytcbpgemiffmieaa
set_option maxRecDepth 100000
set_option maxHeartbeats 4000000
namespace Go.Proofs.Ytcbpgemiffmieaa
open Go.ChangeShapes Go.WideShapes Go.ChangeAt Go.RowKit
namespace Pk
open Tr Cx Sp Rw Codec
def PutsT (u:T) (se sk:SV):Prop:=∀ (w:World) (l:List (Addr×Value)) (B a:Nat) (g:Option Nat) (bs:List UInt8) (long:Bool),OutC w l B a g bs long→RdT w B u se sk →
  Calls Try.prog 21 #[.pointer (some ⟨a,0,none⟩),.agg #[.slice se.A se.n se.c,.slice sk.A sk.n sk.c]] w fun e w'=>e = .returned (.tuple #[])∧Pt B a g bs long w l (treeB u) w'
theorem kidB_def (k:ByteArray) (u:T):kidB (k,u)=txtB k++treeB u:=rfl
theorem putki_any (s:ByteArray) (u:T) (Ae Ak:Option Addr) (ne nk ce ck:Nat) {w:World} {l:List (Addr×Value)} {B a q:Nat} {g:Option Nat} {bs:List UInt8} {long:Bool} (h0:s.size≤maxLen) (hu:PutsT u ⟨Ae,ne,ce⟩ ⟨Ak,nk,ck⟩) (hru:RdT w B u ⟨Ae,ne,ce⟩ ⟨Ak,nk,ck⟩) (h:OutC w ((⟨q,0,none⟩,.pointer (some ⟨a,0,none⟩))::l) B a g bs long) :
  Calls Try.prog 37 #[.agg #[.string s,.slice Ae ne ce,.slice Ak nk ck],.pointer (some ⟨q,0,none⟩)] w fun e w'=>e = .returned (.tuple #[])∧Pt B a g bs long w ((⟨q,0,none⟩,.pointer (some ⟨a,0,none⟩))::l) (kidB (s,u)) w':=by
 have HO:=Lib.hid h;have HP:=Lib.hid (Pt.refl h);have HU:=Lib.hid hu;have HRU:=Lib.hid hru;clear hu hru;clear h;obtain⟨p,hp⟩:∃ p,p=w.heap.size:=⟨_,rfl⟩;obtain⟨W,hW⟩:∃ W,W=w.alloc (.cells #[.string s,.slice Ae ne ce,.slice Ak nk ck] 72):=⟨_,rfl⟩
 have HP1:Hid (Pt B a g bs long w ([(⟨p,0,none⟩,.string s),(⟨p,1,none⟩,.slice Ae ne ce),(⟨p,2,none⟩,.slice Ak nk ck)]++((⟨q,0,none⟩,.pointer (some ⟨a,0,none⟩))::l)) [] W):=by
  refine HP.out.add (by rw[hW];exact Dt.box_below _ _ _) ?_;intro x hx;simp only[List.mem_cons,List.not_mem_nil,or_false]at hx
  rcases hx with rfl | rfl | rfl <;> exact⟨by dsimp only;omega,by rw[hW];simp <;> omega,by rw[hW,hp];go_simp⟩
 have Hp:=Lib.hid hp;have HW:=Lib.hid hW;clear hp hW;have kq:=HP1.out.c3;rw[HW.out]at kq;clear HP;go_enter Try.func37,Try.ntmps37;go_wp2_with fail;rw[← HW.out,← Hp.out];clear kq;refine (HP1.out.then (fun _ _ _ h=>ptext_any s h0 h)).mono ?_;rintro e w1 ⟨rfl,HP2⟩;have k0:=HP2.out.c0;have k1:=HP2.out.c1;have k2:=HP2.out.c2;have k3:=HP2.out.c3;clear HP1;go_wp2_with fail;have HB2:=Lib.hid (HP2.out.below HO.out);refine (HP2.out.then (fun _ _ _ h=>HU.out _ _ _ _ _ _ _ h (RdT.below HRU.out HB2.out))).mono ?_;rintro e w2 ⟨rfl,HP3⟩;clear k0;clear k1;clear k2;clear k3;have k0:=HP3.out.c0;have k1:=HP3.out.c1;have k2:=HP3.out.c2;have k3:=HP3.out.c3;clear HP2;go_wp2
 go_end0
 refine⟨rfl,?_⟩;have h9:=HP3.out.sub (l2:=(⟨q,0,none⟩,.pointer (some ⟨a,0,none⟩))::l) (fun x hx=>List.mem_append_right _ hx)
 simpa only [List.nil_append,List.append_assoc,kidB_def] using h9
theorem putAllKi_any (xs:List (ByteArray×T)) (n c:Nat) (A:Option Addr) {w:World} {l:List (Addr×Value)} {B a:Nat} {q:Nat} {g:Option Nat} {bs:List UInt8} {long:Bool} (hl:xs.length=n) (hn:n≤100000) (hx:∀ x∈xs,x.1.size≤maxLen∧∀ se sk,PutsT x.2 se sk) {es:List E} {se0:SV} (hr:RdT w B (.mk es xs) se0 ⟨A,n,c⟩) (h:OutC w ((⟨q,0,none⟩,.pointer (some ⟨a,0,none⟩))::l) B a g bs long) :
  Calls Try.prog 36 #[.pointer (some ⟨a,0,none⟩),.slice A n c,.func (.func 37) #[] #[.pointer (some ⟨q,0,none⟩)]] w fun e w'=>e = .returned (.tuple #[])∧Pt B a g bs long w ((⟨q,0,none⟩,.pointer (some ⟨a,0,none⟩))::l) (listB kidB xs) w':=by
 have HO:=Lib.hid h;have HP:=Lib.hid (Pt.refl h);have HL:=Lib.hid hl;have HR:=Lib.hid hr;have HX:=Lib.hid hx;have hn64:I64 (n:Int):=⟨by omega,by omega⟩;clear h hl hr hx;go_enter Try.func36,Try.ntmps36;go_wp2_with fail;refine (HP.out.then (fun _ _ _ h=>pnum_any (n:Int) hn64 h)).mono ?_;rintro e w1 ⟨rfl,HP1⟩;rw[List.nil_append]at HP1;clear HP;go_wp2_with fail
 go_loopw [14] (fun i wr=>∃ (k:Nat),i = .int .i64 k∧k≤n∧Hid (Pt B a g bs long w ((⟨q,0,none⟩,.pointer (some ⟨a,0,none⟩))::l) (numB n++(xs.take k).flatMap kidB) wr)) (fun i _=>n-(intOf i).toNat)
 case atStart=>exact⟨0,rfl,Nat.zero_le _,by simpa using HP1⟩
 case round=>
  obtain⟨k,rfl,hk,HP⟩:=hrel
  by_cases hlt:k<n
  ·have hkl:k<xs.length:=by rw[HL.out];exact hlt
   have hbw:=HP.out.below HO.out;obtain⟨b,o,rfl,hb,hc⟩:=rd_kid HR.out (by omega);obtain⟨⟨Ae,ne,ce⟩,⟨Ak,nk,ck⟩,c0,c1,c2,hkid⟩:=hc k hkl;dsimp only at c0 c1 c2;have c0:=(hbw.cell (p:=⟨b,o+k*3,none⟩) hb).trans c0;have c1:=(hbw.cell (p:=⟨b,o+k*3+1,none⟩) hb).trans c1;have c2:=(hbw.cell (p:=⟨b,o+k*3+2,none⟩) hb).trans c2;clear hc;have hsuc:=flat_take kidB hkl;obtain⟨x,hxe⟩:∃ x,x=xs[k]:=⟨_,rfl⟩;have HE:=HX.out x (hxe▸List.getElem_mem hkl);have HMEM:Hid (x=xs[k]):=hxe;rw[← hxe]at hsuc;rw[← hxe]at c0 hkid
   have HSUC:Hid (numB n++(xs.take (k+1)).flatMap kidB=numB n++(xs.take k).flatMap kidB++kidB x):=by
    unfold Hid;rw[hsuc];simp only[List.append_assoc]

   have HE:=Lib.hid HE;have HBS:Hid (B≤wr.heap.size):=Nat.le_trans HO.out.bw hbw.size;obtain⟨s,u⟩:=x;dsimp only at c0 c1 c2 hkid HE;have HRK:=Lib.hid (RdT.below hkid hbw);clear hsuc hxe hbw HMEM hkid;obtain⟨p,hp⟩:∃ p,p=wr.heap.size:=⟨_,rfl⟩;obtain⟨W,hW⟩:∃ W,W=wr.alloc (.cells #[.string s,.slice Ae ne ce,.slice Ak nk ck] 72):=⟨_,rfl⟩;have HPW:=Lib.hid (HP.out.later (w':=W) (by rw[hW];exact Dt.box_below _ _ _))
   have HWB:Hid (Below wr.heap.size wr W):=by unfold Hid;rw[hW];exact Dt.box_below _ _ _
   have HW:=Lib.hid hW;have Hp:=Lib.hid hp;clear hW hp;go_wp2_with fail
   try rw[← HW.out]
   refine (HPW.out.then (fun g' _ _ h=>putki_any s u Ae Ak ne nk ce ck HE.out.1 (HE.out.2 _ _) (RdT.below HRK.out (HWB.out.mono HBS.out)) h)).mono ?_;rintro e w2 ⟨rfl,HP2⟩;rw[← HSUC.out]at HP2;go_wp2_with fail;go_roundw
   case rel=>exact⟨k+1,by go_num,by omega,HP2⟩
   case measure=>simp[intOf];omega
  ·have hke:k=n:=by omega
   have HF:Hid (Pt B a g bs long w ((⟨q,0,none⟩,.pointer (some ⟨a,0,none⟩))::l) (listB kidB xs) wr):=by
    have h1:=HP.out;rw[hke,← HL.out,List.take_length]at h1;exact h1
   clear HP;go_wp2
   go_end0
   exact⟨rfl,HF.out⟩
end Pk
end Go.Proofs.Ytcbpgemiffmieaa
set_option maxRecDepth 100000
set_option maxHeartbeats 4000000
namespace Go.Proofs.Ytcbpgemiffmieaa
open Go.ChangeShapes Go.WideShapes Go.ChangeAt Go.RowKit
namespace Pk
open Tr Cx Sp Rw Codec
theorem right_en {d:Nat} {es:List E} {ks:List (ByteArray×T)} (h:RightT d (.mk es ks)):∀ e∈es,EnI e:=by
 intro e he
 cases d with
 | zero=>exact h.elim
 | succ d=>
  obtain⟨h1,h2,h3,h4⟩:=h.1 e he;unfold Dt.rightB at h1
  simp at h1
  unfold EnI maxLen;exact⟨⟨by omega,by omega⟩,⟨by omega,by omega⟩,by omega,⟨by omega,by omega⟩⟩
theorem pctx_any (xs:List S3) (n c:Nat) (A:Option Addr) {w:World} {l:List (Addr×Value)} {B a:Nat} {g:Option Nat} {bs:List UInt8} {long:Bool} (hl:xs.length=n) (hn:n≤100000) (hx:∀ s∈xs,SpI s) (hr:Rd w B 3 A n c (spsC xs)) (h:OutC w l B a g bs long) :
  Calls Try.prog 22 #[.pointer (some ⟨a,0,none⟩),.slice A n c] w fun e w'=>e = .returned (.tuple #[])∧Pt B a g bs long w l (ctxB xs) w':=by
 have HO:=Lib.hid h;have HP:=Lib.hid (Pt.refl h);have HL:=Lib.hid hl;have HX:=Lib.hid hx;have HR:=Lib.hid hr;clear hl hx hr;clear h;obtain⟨q,hq⟩:∃ p,p=w.heap.size:=⟨_,rfl⟩;obtain⟨W,hW⟩:∃ W,W=(w.alloc (.cells #[.pointer (some ⟨a,0,none⟩)] 54)):=⟨_,rfl⟩
 have hbW:Below w.heap.size w W:=by rw[hW];exact (Below.refl _ _).alloc (Nat.le_refl _) _
 have hszW:W.heap.size=w.heap.size+1:=by rw[hW];simp
 have HP1:Hid (Pt B a g bs long w ([(⟨q,0,none⟩,.pointer (some ⟨a,0,none⟩))]++l) [] W):=by
  refine HP.out.add hbW ?_;intro x hx;simp only[List.mem_cons,List.not_mem_nil,or_false]at hx
  rcases hx with rfl <;> exact⟨by dsimp only;omega,by dsimp only;omega,by rw[hW];(try rw[hq]);go_simp⟩
 have HBW:=Lib.hid hbW;have HW:=Lib.hid hW;have Hq:=Lib.hid hq;clear hW hbW hszW HP hq;go_enter Try.func22,Try.ntmps22;go_wp2_with fail;rw[← HW.out]
 try rw[← Hq.out]
 refine (HP1.out.then (fun _ _ _ h=>putAllSp_any xs n c A HL.out hn HX.out (HR.out.below (HBW.out.mono HO.out.bw)) h)).mono ?_;rintro e w1 ⟨rfl,HP2⟩;have k0:=HP2.out.c0;have HB2:=Lib.hid (HP2.out.below HO.out);clear HP1;go_wp2
 go_end0
 refine⟨rfl,?_⟩;have h9:=HP2.out.sub (l2:=l) (fun x hx=>List.mem_append_right _ hx)
 simpa only [List.nil_append,List.append_assoc,ctxB] using h9
theorem ptree_mk (es:List E) (ks:List (ByteArray×T)) (Ae Ak:Option Addr) (ne nk ce ck:Nat) {w:World} {l:List (Addr×Value)} {B a:Nat} {g:Option Nat} {bs:List UInt8} {long:Bool} (hx:∀ e∈es,EnI e) (hk:∀ k∈ks,k.1.size≤maxLen∧∀ se sk,PutsT k.2 se sk) (hn:nodes (.mk es ks)≤100000) (hr:RdT w B (.mk es ks) ⟨Ae,ne,ce⟩ ⟨Ak,nk,ck⟩) (h:OutC w l B a g bs long) :
  Calls Try.prog 21 #[.pointer (some ⟨a,0,none⟩),.agg #[.slice Ae ne ce,.slice Ak nk ck]] w fun e w'=>e = .returned (.tuple #[])∧Pt B a g bs long w l (treeB (.mk es ks)) w':=by
 have HO:=Lib.hid h;have HP:=Lib.hid (Pt.refl h);obtain⟨hle,hlk⟩:=rd_lens hr;have hns:=nodes_es es ks
 have hne:ne≤100000:=by omega
 have hnk:nk≤100000:=by omega
 have HLE:=Lib.hid hle;have HLK:=Lib.hid hlk;have HX:=Lib.hid hx;have HK:=Lib.hid hk;have HR:=Lib.hid hr;clear hle hlk hx hk hr hns hn;clear h;obtain⟨q,hq⟩:∃ p,p=w.heap.size:=⟨_,rfl⟩;obtain⟨p,hp⟩:∃ p,p=q+1:=⟨_,rfl⟩;obtain⟨W,hW⟩:∃ W,W=((w.alloc (.cells #[.pointer (some ⟨a,0,none⟩)] 54)).alloc (.cells #[.slice Ae ne ce,.slice Ak nk ck] 27)):=⟨_,rfl⟩
 have hbW:Below w.heap.size w W:=by rw[hW];exact ((Below.refl _ _).alloc (Nat.le_refl _) _).alloc (by simp) _
 have hszW:W.heap.size=w.heap.size+2:=by rw[hW];simp
 have HP1:Hid (Pt B a g bs long w ([(⟨q,0,none⟩,.pointer (some ⟨a,0,none⟩)),(⟨p,0,none⟩,.slice Ae ne ce),(⟨p,1,none⟩,.slice Ak nk ck)]++l) [] W):=by
  refine HP.out.add hbW ?_;intro x hx;simp only[List.mem_cons,List.not_mem_nil,or_false]at hx
  rcases hx with rfl | rfl | rfl <;> exact⟨by dsimp only;omega,by dsimp only;omega,by rw[hW];(try rw[hp]);(try rw[hq]);go_simp⟩
 have HBW:=Lib.hid hbW;have HW:=Lib.hid hW;have Hq:=Lib.hid hq;have Hp:=Lib.hid hp;clear hW hbW hszW HP hq hp;go_enter Try.func21,Try.ntmps21;go_wp2_with fail;rw[← HW.out]
 try rw[← Hq.out]
 try rw[← Hp.out]
 refine (HP1.out.then (fun _ _ _ h=>putAllEn_any es ne ce Ae HLE.out hne HX.out (((rdT_mk _ _ _ _ _ _).1 HR.out).2.1.below (HBW.out.mono HO.out.bw)) h)).mono ?_;rintro e w1 ⟨rfl,HP2⟩;have k0:=HP2.out.c0;have k1:=HP2.out.c1;have k2:=HP2.out.c2;have HB2:=Lib.hid (HP2.out.below HO.out);clear HP1;go_wp2_with fail;refine (HP2.out.then (fun _ _ _ h=>putAllKi_any ks nk ck Ak HLK.out hnk HK.out (RdT.below HR.out HB2.out) h)).mono ?_;rintro e w2 ⟨rfl,HP3⟩;clear k0;clear k1;clear k2;have k0:=HP3.out.c0;have k1:=HP3.out.c1;have k2:=HP3.out.c2;have HB3:=Lib.hid (HP3.out.below HO.out);clear HP2;go_wp2
 go_end0
 refine⟨rfl,?_⟩;have h9:=HP3.out.sub (l2:=l) (fun x hx=>List.mem_append_right _ hx)
 simpa only [List.nil_append,List.append_assoc,treeB_mk] using h9
theorem ptree_any:∀ (t:T) (d:Nat),RightT d t→nodes t≤100000→∀ se sk:SV,PutsT t se sk:=by
 intro t
 induction t using T.ind with
 | h es ks ih=>
 intro d hd hn se sk w l B a g bs long h hr;obtain⟨Ae,ne,ce⟩:=se;obtain⟨Ak,nk,ck⟩:=sk;refine ptree_mk es ks Ae Ak ne nk ce ck (right_en hd) (fun k hk=>?_) hn hr h
 cases d with
 | zero=>exact hd.elim
 | succ d=>
  obtain⟨h1,_,h3⟩:=hd.2.2.2 k hk;refine⟨by have:=h1.2;unfold maxLen;omega,fun se sk=>ih k hk d h3 (Nat.le_trans (nodes_kid hk) hn) se sk⟩
theorem pcaus_any (t:T) (xs:List S3) (Ae Ak Ca:Option Addr) (ne nk ce ck n c:Nat) {w:World} {l:List (Addr×Value)} {B a:Nat} {g:Option Nat} {bs:List UInt8} {long:Bool} (ht:RightT 5 t) (hn:nodes t≤100000) (hl:xs.length=n) (hm:n≤100000) (hx:∀ s∈xs,SpI s) (hr:RdT w B t ⟨Ae,ne,ce⟩ ⟨Ak,nk,ck⟩) (hc:Rd w B 3 Ca n c (spsC xs)) (h:OutC w l B a g bs long) :
  Calls Try.prog 12 #[.pointer (some ⟨a,0,none⟩),.agg #[.slice Ae ne ce,.slice Ak nk ck,.slice Ca n c]] w fun e w'=>e = .returned (.tuple #[])∧Pt B a g bs long w l (causB (t,xs)) w':=by
 have HO:=Lib.hid h;have HP:=Lib.hid (Pt.refl h);have HT:=Lib.hid ht;have HL:=Lib.hid hl;have HX:=Lib.hid hx;have HR:=Lib.hid hr;have HC:=Lib.hid hc;clear ht hl hx hr hc;clear h;obtain⟨p,hp⟩:∃ p,p=w.heap.size:=⟨_,rfl⟩;obtain⟨W,hW⟩:∃ W,W=(w.alloc (.cells #[.slice Ae ne ce,.slice Ak nk ck,.slice Ca n c] 31)):=⟨_,rfl⟩
 have hbW:Below w.heap.size w W:=by rw[hW];exact (Below.refl _ _).alloc (Nat.le_refl _) _
 have hszW:W.heap.size=w.heap.size+1:=by rw[hW];simp
 have HP1:Hid (Pt B a g bs long w ([(⟨p,0,none⟩,.slice Ae ne ce),(⟨p,1,none⟩,.slice Ak nk ck),(⟨p,2,none⟩,.slice Ca n c)]++l) [] W):=by
  refine HP.out.add hbW ?_;intro x hx;simp only[List.mem_cons,List.not_mem_nil,or_false]at hx
  rcases hx with rfl | rfl | rfl <;> exact⟨by dsimp only;omega,by dsimp only;omega,by rw[hW];(try rw[hp]);go_simp⟩
 have HBW:=Lib.hid hbW;have HW:=Lib.hid hW;have Hp:=Lib.hid hp;clear hW hbW hszW HP hp;go_enter Try.func12,Try.ntmps12;go_wp2_with fail;rw[← HW.out]
 try rw[← Hp.out]
 refine (HP1.out.then (fun _ _ _ h=>ptree_any t 5 HT.out hn ⟨Ae,ne,ce⟩ ⟨Ak,nk,ck⟩ _ _ _ _ _ _ _ h (RdT.below HR.out (HBW.out.mono HO.out.bw)))).mono ?_;rintro e w1 ⟨rfl,HP2⟩;have k0:=HP2.out.c0;have k1:=HP2.out.c1;have k2:=HP2.out.c2;have HB2:=Lib.hid (HP2.out.below HO.out);clear HP1;go_wp2_with fail;refine (HP2.out.then (fun _ _ _ h=>pctx_any xs n c Ca HL.out hm HX.out (HC.out.below HB2.out) h)).mono ?_;rintro e w2 ⟨rfl,HP3⟩;clear k0;clear k1;clear k2;have k0:=HP3.out.c0;have k1:=HP3.out.c1;have k2:=HP3.out.c2;have HB3:=Lib.hid (HP3.out.below HO.out);clear HP2;go_wp2
 go_end0
 refine⟨rfl,?_⟩;have h9:=HP3.out.sub (l2:=l) (fun x hx=>List.mem_append_right _ hx)
 simpa only [List.nil_append,List.append_assoc,causB] using h9
end Pk
end Go.Proofs.Ytcbpgemiffmieaa
namespace Go.Proofs.Ytcbpgemiffmieaa
open Go.ChangeShapes Go.WideShapes Go.ChangeAt Go.RowKit
namespace Pk
open Tr Cx Sp Rw Codec
end Pk
end Go.Proofs.Ytcbpgemiffmieaa
