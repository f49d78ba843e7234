/- Texts of the lower layers, and of layer 9, put together. -/
import Derived.Test.YtcbpgemiffmieaaGreatTreeLeaves
import Derived.Test.YtcbpgemiffmieaaGreatG00
import Derived.Test.YtcbpgemiffmieaaGreatG01
import Derived.Test.YtcbpgemiffmieaaGreatG10
import Derived.Test.YtcbpgemiffmieaaGreatCtx1
import Derived.Test.YtcbpgemiffmieaaGreatTreeRight
import Derived.Test.YtcbpgemiffmieaaGreatCauHas
import Derived.Test.YtcbpgemiffmieaaGreatTreeRefRight
namespace Go.Proofs.YtcbpgemiffmieaaGreat
open Go.ChangeShapes Go.WideShapes Go.ChangeAt Go.RowKit
namespace Tr
open Sp Rw
theorem push_str (W:World) (base q:Nat) (hq:W.heap.size=q) {A:Option Addr} {n c:Nat} {l:List ByteArray} (h:Own W base 9 1 A n c (strs l)) (hb:base≤W.heap.size) (s:ByteArray) (hn:n≤800000) :
  ∃ A' c' w',(Builtin.append_ #[38,38] 38 #[.slice A n c,.slice (some ⟨q,0,none⟩) 1 1]).run Tryz.prog (W.alloc (.cells #[.string s] 9)) = .ok (.slice A' (n+1) c') w'∧Own w' base 9 1 A' (n+1) c' (strs (l++[s]))∧Below base W w':=by
 subst hq;have hb1:Below W.heap.size W (W.alloc (.cells #[.string s] 9)):=Dt.box_below _ _ _;obtain⟨A4,c4,w4,r1,r2,r3⟩:=add_key (W.alloc (.cells #[.string s] 9)) base (own_later h hb1) (Nat.le_trans hb hb1.size) (rd_key _ W.heap.size (W.heap.size+1) (by omega) s (heap_alloc_new _ _)) hn;exact⟨A4,c4,w4,r1,r2,(hb1.mono hb).trans r3⟩
theorem rd_text {w:World} {B n c:Nat} {A:Option Addr} {l:List ByteArray} (h:Rd w B 1 A n c (strs l)) (hn:0<n):∃ b o,A=some ⟨b,o,none⟩∧b<B∧∀ (i:Nat) (hi:i<l.length),w.cell? ⟨b,o+i,none⟩=some (.string l[i]):=by
 obtain⟨b,o,e,hb,hc⟩:=h.at_ hn;exact⟨b,o,e,hb,fun i hi=>hc i _ (by simp[strs,hi])⟩
theorem strs_len (l:List ByteArray):(strs l).length=l.length:=List.length_map _
theorem rd_len1 {w:World} {B n c:Nat} {A:Option Addr} {l:List ByteArray} (h:Rd w B 1 A n c (strs l)):l.length=n:=by
 have:=h.len;rw[strs_len,Nat.mul_one]at this;exact this
end Tr
end Go.Proofs.YtcbpgemiffmieaaGreat
set_option maxRecDepth 100000
set_option maxHeartbeats 4000000
namespace Go.Proofs.YtcbpgemiffmieaaGreat
open Go.ChangeShapes Go.WideShapes Go.ChangeAt Go.RowKit
namespace Pk
open Tr Cx Sp Rw Codec
theorem gcenter_any {w:World} {l:List (Addr×Value)} {F:List Nat} {a:Nat} {bs:List UInt8} {bad:Bool} (h:InC w l F a bs bad) :
  Calls Tryz.prog 94 #[.pointer (some ⟨a,0,none⟩)] w fun e w'=>∃ (x:Int) (r:List UInt8) (b:Bool),e = .returned (.int .i64 x)∧Hid (Gt a w l F r b w')∧Hid (One numB (NumR 3) bs x r b):=by
 have HO:=Lib.hid h;clear h;go_enter Tryz.func94,Tryz.ntmps94;go_wp2_with fail;refine (gnum_any 3 (by omega) (by omega) HO.out).mono ?_;rintro e w1 ⟨x,r,b,rfl,HG,H1⟩;go_wp2;go_ret;exact⟨x,r,b,rfl,HG,H1⟩
theorem gtxt_any {w:World} {l:List (Addr×Value)} {F:List Nat} {a:Nat} {bs:List UInt8} {bad:Bool} (h:InC w l F a bs bad) :
  Calls Tryz.prog 70 #[.pointer (some ⟨a,0,none⟩)] w fun e w'=>∃ (x:ByteArray) (r:List UInt8) (b:Bool),e = .returned (.string x)∧Hid (Gt a w l F r b w')∧Hid (One txtB (TxtR 30) bs x r b):=by
 have HO:=Lib.hid h;clear h;go_enter Tryz.func70,Tryz.ntmps70;go_wp2_with fail;refine (gtext_any 30 (by omega) HO.out).mono ?_;rintro e w1 ⟨x,r,b,rfl,HG,H1⟩;go_wp2;go_ret;exact⟨x,r,b,rfl,HG,H1⟩
theorem gspan_any {w:World} {l:List (Addr×Value)} {F:List Nat} {a:Nat} {bs:List UInt8} {bad:Bool} (h:InC w l F a bs bad) :
  Calls Tryz.prog 63 #[.pointer (some ⟨a,0,none⟩)] w fun e w'=>∃ (x:S3) (r:List UInt8) (b:Bool),e = .returned (.agg #[.int .i64 x.1,.int .i64 x.2.1,.int .i64 x.2.2])∧Hid (Gt a w l F r b w')∧Hid (One spB SpanR bs x r b):=by
 have HO:=Lib.hid h;have HG0:=Lib.hid (Gt.refl h);clear h;obtain⟨p,hp⟩:∃ p,p=w.heap.size:=⟨_,rfl⟩;obtain⟨W,hW⟩:∃ W,W=w.alloc (.cells #[.int .i64 0,.int .i64 0,.int .i64 0] 100):=⟨_,rfl⟩
 have HG1:Hid (Gt a w ([(⟨p,0,none⟩,.int .i64 0),(⟨p,1,none⟩,.int .i64 0),(⟨p,2,none⟩,.int .i64 0)]++l) ([p]++F) bs bad W):=by
  refine HG0.out.add (by rw[hW];exact Dt.box_below _ _ _) ?_ ?_
  ·intro x hx
   simp only[List.mem_cons,List.not_mem_nil,or_false]at hx
   rcases hx with rfl | rfl | rfl <;> exact⟨by dsimp only;omega,by rw[hW];simp <;> omega,by rw[hW,hp];go_simp⟩
  ·intro q hq
   simp only[List.mem_cons,List.not_mem_nil,or_false]at hq;subst hq;exact⟨by omega,by rw[hW,hp];simp,fun j=>by rw[hW,hp];go_simp⟩
 have HPW:Hid (w.heap.size≤p):=by unfold Hid;omega
 have HW:=Lib.hid hW;have Hp:=Lib.hid hp;clear hp hW HG0;go_enter Tryz.func63,Tryz.ntmps63;go_wp2_with fail
 try rw[← HW.out]
 try rw[← Hp.out]
 refine (gcenter_any HG1.out.1).mono ?_;rintro e w1 ⟨x0,r1,b1,rfl,HG,H1⟩;have HG2:=Lib.hid (HG1.out.trans HG.out);clear HG HG1;go_wp2_with fail;refine (gnum_any 1099511627776 (by omega) (by omega) HG2.out.1).mono ?_;rintro e w2 ⟨x1,r2,b2,rfl,HG,H2⟩;have HG3:=Lib.hid (HG2.out.trans HG.out);clear HG HG2;go_wp2_with fail;refine (gnum_any 1099511627776 (by omega) (by omega) HG3.out.1).mono ?_;rintro e w3 ⟨x2,r3,b3,rfl,HG,H3⟩;have HG4:=Lib.hid (HG3.out.trans HG.out);clear HG HG3;have HS:=Lib.hid (span_one H1.out H2.out H3.out);have k0:=HG4.out.c0;have k1:=HG4.out.c1;have k2:=HG4.out.c2;have f0:=HG4.out.f0.2 0;have f1:=HG4.out.f0.2 1;have f2:=HG4.out.f0.2 2;obtain⟨W9,hW9⟩:∃ W,W=(((w3.setCell ⟨p,0,none⟩ (.int .i64 x0)).setCell ⟨p,1,none⟩ (.int .i64 x1)).setCell ⟨p,2,none⟩ (.int .i64 x2)):=⟨_,rfl⟩
 have HB9:Hid (Below w.heap.size w3 W9):=by unfold Hid;rw[hW9];exact ((((Below.refl w.heap.size w3).setCell (p:=⟨p,0,none⟩) HPW.out _).setCell (p:=⟨p,1,none⟩) HPW.out _).setCell (p:=⟨p,2,none⟩) HPW.out _)
 have HG9:Hid (Gt a w l F r3 b3 W9):=(HG4.out.sub (l2:=l) (F2:=F) (fun x hx=>by simp[hx]) (fun x hx=>by simp[hx])).low HO.out HB9.out
 have l0:W9.cell? ⟨p,0,none⟩=some (.int .i64 x0):=by rw[hW9];go_simp
 have l1:W9.cell? ⟨p,1,none⟩=some (.int .i64 x1):=by rw[hW9];go_simp
 have l2:W9.cell? ⟨p,2,none⟩=some (.int .i64 x2):=by rw[hW9];go_simp
 have HW9:=Lib.hid hW9;clear hW9;go_wp2;rw[← HW9.out];exact bodyPost_ret (v:=.agg #[.int .i64 x0,.int .i64 x1,.int .i64 x2]) (by simp[results,Tryz.results63,go_sem,l0,l1,l2]) rfl ⟨(x0,x1,x2),r3,b3,rfl,HG9,HS⟩
end Pk
end Go.Proofs.YtcbpgemiffmieaaGreat
namespace Go.Proofs.YtcbpgemiffmieaaGreat
open Go.ChangeShapes Go.WideShapes Go.ChangeAt Go.RowKit
namespace Pk
open Tr Cx Sp Rw Codec
set_option maxRecDepth 100000 in
set_option maxHeartbeats 4000000 in
theorem gentry_any {w:World} {l:List (Addr×Value)} {F:List Nat} {a:Nat} {bs:List UInt8} {bad:Bool} (h:InC w l F a bs bad) :
  Calls Tryz.prog 97 #[.pointer (some ⟨a,0,none⟩)] w fun e w'=>∃ (x:E) (r:List UInt8) (b:Bool),e = .returned (.agg #[.int .i64 x.a,.int .i64 x.n,.string x.s,.int .i64 x.v])∧Hid (Gt a w l F r b w')∧Hid (One entB EntR bs x r b):=by
 have HO:=Lib.hid h;have HG0:=Lib.hid (Gt.refl h);clear h;obtain⟨p,hp⟩:∃ p,p=w.heap.size:=⟨_,rfl⟩;obtain⟨W,hW⟩:∃ W,W=w.alloc (.cells #[.int .i64 0,.int .i64 0,.string ⟨#[]⟩,.int .i64 0] 116):=⟨_,rfl⟩
 have HG1:Hid (Gt a w ([(⟨p,0,none⟩,.int .i64 0),(⟨p,1,none⟩,.int .i64 0),(⟨p,2,none⟩,.string ⟨#[]⟩),(⟨p,3,none⟩,.int .i64 0)]++l) ([p]++F) bs bad W):=by
  refine HG0.out.add (by rw[hW];exact Dt.box_below _ _ _) ?_ ?_
  ·intro x hx
   simp only[List.mem_cons,List.not_mem_nil,or_false]at hx
   rcases hx with rfl | rfl | rfl | rfl <;> exact⟨by dsimp only;omega,by rw[hW];simp <;> omega,by rw[hW,hp];go_simp⟩
  ·intro q hq
   simp only[List.mem_cons,List.not_mem_nil,or_false]at hq;subst hq;exact⟨by omega,by rw[hW,hp];simp,fun j=>by rw[hW,hp];go_simp⟩
 have HPW:Hid (w.heap.size≤p):=by unfold Hid;omega
 have HW:=Lib.hid hW;have Hp:=Lib.hid hp;clear hp hW HG0;go_enter Tryz.func97,Tryz.ntmps97;go_wp2_with fail
 try rw[← HW.out]
 try rw[← Hp.out]
 refine (gcenter_any HG1.out.1).mono ?_;rintro e w1 ⟨x0,r1,b1,rfl,HG,H1⟩;have HG2:=Lib.hid (HG1.out.trans HG.out);clear HG HG1;go_wp2_with fail;refine (gnum_any 1099511627776 (by omega) (by omega) HG2.out.1).mono ?_;rintro e w2 ⟨x1,r2,b2,rfl,HG,H2⟩;have HG3:=Lib.hid (HG2.out.trans HG.out);clear HG HG2;obtain⟨q,hq⟩:∃ q,q=w2.heap.size:=⟨_,rfl⟩;obtain⟨W3,hW3⟩:∃ W,W=w2.alloc (.cells #[.int .i64 x0,.int .i64 x1] 114):=⟨_,rfl⟩
 have HG4:Hid (Gt a w ([(⟨q,0,none⟩,.int .i64 x0),(⟨q,1,none⟩,.int .i64 x1)]++([(⟨p,0,none⟩,.int .i64 0),(⟨p,1,none⟩,.int .i64 0),(⟨p,2,none⟩,.string ⟨#[]⟩),(⟨p,3,none⟩,.int .i64 0)]++l)) ([]++([p]++F)) r2 b2 W3):=by
  refine HG3.out.add (by rw[hW3];exact Dt.box_below _ _ _) ?_ (by simp);intro x hx;simp only[List.mem_cons,List.not_mem_nil,or_false]at hx
  rcases hx with rfl | rfl <;> exact⟨by dsimp only;omega,by rw[hW3];simp <;> omega,by rw[hW3,hq];go_simp⟩
 have hqp:¬q=p:=by
  have h1:=World.block_lt_of_cell? w2 _ HG3.out.c0;dsimp only at h1;omega
 have hpq:¬p=q:=fun h=>hqp h.symm;have HW3:=Lib.hid hW3;have Hq:=Lib.hid hq;clear hq hW3 HG3;go_wp2_with fail;rw[← HW3.out]
 try rw[← Hq.out]
 refine wp_region_held_drew (S:=fun W=>W.cell? ⟨q,0,none⟩=some (.int .i64 x0)∧W.cell? ⟨q,1,none⟩=some (.int .i64 x1)) (by kernel_rfl) (by exact⟨(HG4.out.later (bel_drewN (Below.refl _ _) 1)).c0,(HG4.out.later (bel_drewN (Below.refl _ _) 1)).c1⟩) (fun hHeld=>?_);obtain⟨wz,hwz,hbz⟩:=drq W3;have HG4:=Lib.hid (HG4.out.later hbz);rw[← hwz]at hHeld ⊢;clear hwz hbz;refine Tk 0 9 ?_;refine Tk 1 10 ?_;refine Tk 3 12 ?_;refine Tc 2 (fun K hK=>?_);go_simp;refine (gtxt_any HG4.out.1).mono ?_;rintro e v1 ⟨s,r3,b3,rfl,HG,H3⟩;have HG5:=Lib.hid (HG4.out.trans HG.out);clear HG HG4;clear hHeld;refine Th hK ?_ (fun hHeld=>?_)
 ·exact⟨HG5.out.c0,HG5.out.c1⟩
 clear hK K;refine Tc 4 (fun K hK=>?_);go_simp;refine (gnum_any 1099511627776 (by omega) (by omega) HG5.out.1).mono ?_;rintro e v2 ⟨x3,r4,b4,rfl,HG,H4⟩;have HG6:=Lib.hid (HG5.out.trans HG.out);clear HG HG5;have HS:=Lib.hid (ent_one H1.out H2.out H3.out H4.out);have q0:=HG6.out.c0;have q1:=HG6.out.c1;have k0:=HG6.out.c2;have k1:=HG6.out.c3;have k2:=HG6.out.c4;have k3:=HG6.out.c5;have f0:=HG6.out.f0.2 0;have f1:=HG6.out.f0.2 1;have f2:=HG6.out.f0.2 2;have f3:=HG6.out.f0.2 3;obtain⟨W9,hW9⟩:∃ W,W=((((v2.setCell ⟨p,0,none⟩ (.int .i64 x0)).setCell ⟨p,1,none⟩ (.int .i64 x1)).setCell ⟨p,2,none⟩ (.string s)).setCell ⟨p,3,none⟩ (.int .i64 x3)):=⟨_,rfl⟩
 have HB9:Hid (Below w.heap.size v2 W9):=by unfold Hid;rw[hW9];exact (((((Below.refl w.heap.size v2).setCell (p:=⟨p,0,none⟩) HPW.out _).setCell (p:=⟨p,1,none⟩) HPW.out _).setCell (p:=⟨p,2,none⟩) HPW.out _).setCell (p:=⟨p,3,none⟩) HPW.out _)
 have HG9:Hid (Gt a w l F r4 b4 W9):=(HG6.out.sub (l2:=l) (F2:=F) (fun x hx=>by simp[hx]) (fun x hx=>by simp[hx])).low HO.out HB9.out
 have l0:W9.cell? ⟨p,0,none⟩=some (.int .i64 x0):=by rw[hW9];go_simp
 have l1:W9.cell? ⟨p,1,none⟩=some (.int .i64 x1):=by rw[hW9];go_simp
 have l2:W9.cell? ⟨p,2,none⟩=some (.string s):=by rw[hW9];go_simp
 have l3:W9.cell? ⟨p,3,none⟩=some (.int .i64 x3):=by rw[hW9];go_simp
 have HW9:=Lib.hid hW9;clear hW9;clear hHeld;refine Th hK ?_ (fun hHeld=>?_)
 ·exact⟨HG6.out.c0,HG6.out.c1⟩
 clear hK K;refine Tk 5 14 ?_;refine Tc 6 (fun K hK=>?_);go_simp;refine Th hK ?_ (fun hHeld2=>?_)
 ·constructor <;> go_simp
 clear hK K hHeld;have hHeld:=hHeld2;clear hHeld2;refine wpAnyH_done (by kernel_rfl) ?_ _;clear hHeld;go_wp2;rw[← HW9.out];exact bodyPost_ret (v:=.agg #[.int .i64 x0,.int .i64 x1,.string s,.int .i64 x3]) (by simp[results,Tryz.results97,go_sem,l0,l1,l2,l3]) rfl ⟨⟨x0,x1,s,x3⟩,r4,b4,rfl,HG9,HS⟩
end Pk
end Go.Proofs.YtcbpgemiffmieaaGreat
set_option maxRecDepth 100000
set_option maxHeartbeats 4000000
namespace Go.Proofs.YtcbpgemiffmieaaGreat
open Go.ChangeShapes Go.WideShapes Go.ChangeAt Go.RowKit
namespace Pk
open Tr Cx Sp Rw Codec
theorem gallSp_any {w:World} {l:List (Addr×Value)} {F:List Nat} {a:Nat} {bs:List UInt8} {bad:Bool} (hbs:bs.length≤100000) (h:InC w l F a bs bad) :
  Calls Tryz.prog 62 #[.pointer (some ⟨a,0,none⟩),.func (.func 63) #[] #[]] w fun e w'=>∃ (ps:List S3) (n c:Nat) (A:Option Addr) (r:List UInt8) (b:Bool),e = .returned (.slice A n c)∧Hid (ps.length=n)∧Hid (Own w' w.heap.size 100 3 A n c (spsC ps))∧Hid (Gt a w l F r b w')∧Hid (One (listB spB) (fun l=>∀ y∈l,SpanR y) bs ps r b)∧Hid (n≤bs.length):=by
 have HO:=Lib.hid h;have haw:=h.at_.lt;have hin:=h.at_;clear h;go_enter Tryz.func62,Tryz.ntmps62;go_wp2_with fail;refine (left_any hin).mono ?_;rintro e w1 ⟨rfl,rfl⟩;clear hin;go_wp2_with fail;refine (gnum_in (bs.length:Int) (by omega) (by omega) HO.out).mono ?_;rintro e w1 ⟨N,r0,b0,rfl,HG,H1,HN⟩
 by_cases hneg:N<0
 ·have f1:decide (N<0)=true:=decide_eq_true hneg
  have f2:decide (0<N)=false:=decide_eq_false (by omega)
  have HM:Hid (Many spB SpanR bs 0 [] [] true):=Many.no sp_pos fun v x h1 h2 e=>by
   rcases H1.out with ⟨_,e1⟩ | ⟨_,_,hno⟩
   ·rw[e1]at e
    obtain⟨e3,_⟩:=numB_prefix e;omega
   ·exact hno v x ⟨by omega,by omega⟩ e
  have HOne:=Lib.hid (HM.out.all fun h=>by cases h);clear H1 HN hneg HM;go_wp2_with fail;refine (gfail_any HG.out.1).mono ?_;rintro e w2 ⟨rfl,HG2⟩;have HG3:=Lib.hid (HG.out.trans HG2.out);clear HG HG2;go_wp2_with fail
  go_loopw [5,6] (fun i s wr=>i = .int .i64 N∧s = .slice none 0 0∧Hid (wr=w2)) (fun _ _ _=>0)
  case atStart=>exact⟨rfl,rfl,rfl⟩
  case round=>
   obtain⟨rfl,rfl,HE⟩:=hrel
   have HG4:Hid (Gt a w l F [] true wr):=by unfold Hid;rw[HE.out];exact HG3.out
   clear HE;go_wp2;go_ret;exact⟨[],0,0,none,[],true,rfl,rfl,⟨World.ownsRow_nil _ _ _ _,by simp[spsC]⟩,HG4,HOne,Nat.zero_le _⟩
 ·have f1:decide (N<0)=false:=decide_eq_false hneg
  obtain⟨K,rfl⟩:∃ K:Nat,N=(K:Int):=⟨N.toNat,by omega⟩
  have hKb:K≤bs.length:=by
   rcases HN.out with h | h
   ·omega
   ·have:=h.2;omega
  have HKB:=Lib.hid hKb
  have hK9:K≤100000:=by omega
  have HM:Hid (Many spB SpanR bs K [] r0 b0):=by
   rcases H1.out with ⟨rfl,e1⟩ | ⟨rfl,rfl,hno⟩
   ·exact Many.zero e1
   ·exact Many.no sp_pos fun v x h1 h2 e=>hno v x ⟨by omega,by omega⟩ e
  clear H1 HN hneg hKb;go_wp2_with fail
  go_loopw [5,6] (fun i s wr=>∃ (j c:Nat) (A:Option Addr) (ps:List S3) (r:List UInt8) (b:Bool),i = .int .i64 ((K:Int)-(j:Int))∧s = .slice A j c∧j≤K∧Hid (ps.length=j)∧Hid (Own wr w.heap.size 100 3 A j c (spsC ps))∧Hid (Gt a w l F r b wr)∧Hid (Many spB SpanR bs K ps r b)) (fun i _ _=>(intOf i).toNat)
  case atStart=>exact⟨0,0,none,[],r0,b0,by simp,rfl,Nat.zero_le _,rfl,⟨World.ownsRow_nil _ _ _ _,by simp[spsC]⟩,HG,HM⟩
  case round=>
   obtain⟨j,c,A,ps,r,b,rfl,rfl,hj,HL,HW,HG,HM⟩:=hrel;have hin:=HG.out.1.at_
   by_cases hlt:j<K
   ·have f2:decide ((0:Int)<(K:Int)-(j:Int))=true:=decide_eq_true (by omega)
    have f3:decide (j<K)=true:=decide_eq_true hlt;have f4:decide ((j:Int)<(K:Int))=true:=decide_eq_true (by omega)
    cases b with
    | true=>
     have HOne:=Lib.hid (HM.out.all fun h=>by cases h)
     have HJ:Hid (j≤bs.length):=by have:=HKB.out;unfold Hid;omega
     clear HM hlt;go_wp2_with (go_at_call 15;refine (bad_any hin).mono ?_;rintro e w9 ⟨rfl,rfl⟩);go_ret;exact⟨ps,j,c,A,r,true,rfl,HL,HW,HG,HOne,HJ⟩
    | false=>
     go_wp2_with fail;refine (bad_any hin).mono ?_;rintro e w9 ⟨rfl,rfl⟩;clear hin;go_wp2_with fail;refine (gspan_any HG.out.1).mono ?_;rintro e w2 ⟨⟨x0,x1,x2⟩,r2,b2,rfl,HG2,H2⟩;have HGN:=Lib.hid (HG.out.trans HG2.out);have HOW2:Hid (Own w2 w.heap.size 100 3 A j c (spsC ps)):=own_gb HW.out HG2.out.2 haw;have HMN:=Lib.hid (HM.out.step pre_sp (by have:=HL.out;omega) H2.out);have hws:w.heap.size≤w2.heap.size:=HGN.out.2.size;obtain⟨A3,c3,w3,hrun,how3,hb3⟩:=push spC_len spC_one (t:=30) Tryz.underlying30 Cx.infoS rfl (by omega) (by omega) w2 w.heap.size w2.heap.size rfl hws (.slice A j c) ps (by rw[HL.out];exact HOW2.out.row) (x0,x1,x2) #[.int .i64 x0,.int .i64 x1,.int .i64 x2] rfl (by have:=HL.out;omega)
     have hln:(ps++[(x0,x1,x2)]).length=j+1:=by simp[HL.out]
     rw[hln]at hrun how3;have HG3:=Lib.hid (HGN.out.low HO.out (bs:=bs) (bad:=bad) hb3)
     have HL3:Hid ((ps++[(x0,x1,x2)]).length=j+1):=by have:=HL.out;unfold Hid;simp[this]
     have Hrun:=Lib.hid hrun;have HOW3:=Lib.hid how3;clear HG HG2 HM H2 HW HOW2 hws hrun how3 hb3 HGN;go_wp2_with (at_builtin;refine Lib.wpList_append_run _ rfl _ _ _ _ rfl _ _ rfl rfl _ _ Hrun.out ?_);go_roundw
     case rel=>exact⟨j+1,c3,A3,ps++[(x0,x1,x2)],r2,b2,by go_num,rfl,by omega,HL3,HOW3,HG3,HMN⟩
     case measure=>simp[intOf];omega
   ·have f2:decide ((0:Int)<(K:Int)-(j:Int))=false:=decide_eq_false (by omega)
    have f3:decide (j<K)=false:=decide_eq_false hlt;have f4:decide ((j:Int)<(K:Int))=false:=decide_eq_false (by omega);have HOne:=Lib.hid (HM.out.all fun h=>by have:=HL.out;omega)
    have HJ:Hid (j≤bs.length):=by have:=HKB.out;unfold Hid;omega
    clear HM hlt hin;go_wp2;go_ret;exact⟨ps,j,c,A,r,b,rfl,HL,HW,HG,HOne,HJ⟩
theorem gallEn_any {w:World} {l:List (Addr×Value)} {F:List Nat} {a:Nat} {bs:List UInt8} {bad:Bool} (hbs:bs.length≤100000) (h:InC w l F a bs bad) :
  Calls Tryz.prog 96 #[.pointer (some ⟨a,0,none⟩),.func (.func 97) #[] #[]] w fun e w'=>∃ (ps:List E) (n c:Nat) (A:Option Addr) (r:List UInt8) (b:Bool),e = .returned (.slice A n c)∧Hid (ps.length=n)∧Hid (Own w' w.heap.size 116 4 A n c (entsC ps))∧Hid (Gt a w l F r b w')∧Hid (One (listB entB) (fun l=>∀ y∈l,EntR y) bs ps r b)∧Hid (n≤bs.length):=by
 have HO:=Lib.hid h;have haw:=h.at_.lt;have hin:=h.at_;clear h;go_enter Tryz.func96,Tryz.ntmps96;go_wp2_with fail;refine (left_any hin).mono ?_;rintro e w1 ⟨rfl,rfl⟩;clear hin;go_wp2_with fail;refine (gnum_in (bs.length:Int) (by omega) (by omega) HO.out).mono ?_;rintro e w1 ⟨N,r0,b0,rfl,HG,H1,HN⟩
 by_cases hneg:N<0
 ·have f1:decide (N<0)=true:=decide_eq_true hneg
  have f2:decide (0<N)=false:=decide_eq_false (by omega)
  have HM:Hid (Many entB EntR bs 0 [] [] true):=Many.no ent_pos' fun v x h1 h2 e=>by
   rcases H1.out with ⟨_,e1⟩ | ⟨_,_,hno⟩
   ·rw[e1]at e
    obtain⟨e3,_⟩:=numB_prefix e;omega
   ·exact hno v x ⟨by omega,by omega⟩ e
  have HOne:=Lib.hid (HM.out.all fun h=>by cases h);clear H1 HN hneg HM;go_wp2_with fail;refine (gfail_any HG.out.1).mono ?_;rintro e w2 ⟨rfl,HG2⟩;have HG3:=Lib.hid (HG.out.trans HG2.out);clear HG HG2;go_wp2_with fail
  go_loopw [5,6] (fun i s wr=>i = .int .i64 N∧s = .slice none 0 0∧Hid (wr=w2)) (fun _ _ _=>0)
  case atStart=>exact⟨rfl,rfl,rfl⟩
  case round=>
   obtain⟨rfl,rfl,HE⟩:=hrel
   have HG4:Hid (Gt a w l F [] true wr):=by unfold Hid;rw[HE.out];exact HG3.out
   clear HE;go_wp2;go_ret;exact⟨[],0,0,none,[],true,rfl,rfl,⟨World.ownsRow_nil _ _ _ _,by simp[entsC]⟩,HG4,HOne,Nat.zero_le _⟩
 ·have f1:decide (N<0)=false:=decide_eq_false hneg
  obtain⟨K,rfl⟩:∃ K:Nat,N=(K:Int):=⟨N.toNat,by omega⟩
  have hKb:K≤bs.length:=by
   rcases HN.out with h | h
   ·omega
   ·have:=h.2;omega
  have HKB:=Lib.hid hKb
  have hK9:K≤100000:=by omega
  have HM:Hid (Many entB EntR bs K [] r0 b0):=by
   rcases H1.out with ⟨rfl,e1⟩ | ⟨rfl,rfl,hno⟩
   ·exact Many.zero e1
   ·exact Many.no ent_pos' fun v x h1 h2 e=>hno v x ⟨by omega,by omega⟩ e
  clear H1 HN hneg hKb;go_wp2_with fail
  go_loopw [5,6] (fun i s wr=>∃ (j c:Nat) (A:Option Addr) (ps:List E) (r:List UInt8) (b:Bool),i = .int .i64 ((K:Int)-(j:Int))∧s = .slice A j c∧j≤K∧Hid (ps.length=j)∧Hid (Own wr w.heap.size 116 4 A j c (entsC ps))∧Hid (Gt a w l F r b wr)∧Hid (Many entB EntR bs K ps r b)) (fun i _ _=>(intOf i).toNat)
  case atStart=>exact⟨0,0,none,[],r0,b0,by simp,rfl,Nat.zero_le _,rfl,⟨World.ownsRow_nil _ _ _ _,by simp[entsC]⟩,HG,HM⟩
  case round=>
   obtain⟨j,c,A,ps,r,b,rfl,rfl,hj,HL,HW,HG,HM⟩:=hrel;have hin:=HG.out.1.at_
   by_cases hlt:j<K
   ·have f2:decide ((0:Int)<(K:Int)-(j:Int))=true:=decide_eq_true (by omega)
    have f3:decide (j<K)=true:=decide_eq_true hlt;have f4:decide ((j:Int)<(K:Int))=true:=decide_eq_true (by omega)
    cases b with
    | true=>
     have HOne:=Lib.hid (HM.out.all fun h=>by cases h)
     have HJ:Hid (j≤bs.length):=by have:=HKB.out;unfold Hid;omega
     clear HM hlt;go_wp2_with (go_at_call 15;refine (bad_any hin).mono ?_;rintro e w9 ⟨rfl,rfl⟩);go_ret;exact⟨ps,j,c,A,r,true,rfl,HL,HW,HG,HOne,HJ⟩
    | false=>
     go_wp2_with fail;refine (bad_any hin).mono ?_;rintro e w9 ⟨rfl,rfl⟩;clear hin;go_wp2_with fail;refine (gentry_any HG.out.1).mono ?_;rintro e w2 ⟨x,r2,b2,rfl,HG2,H2⟩;have HGN:=Lib.hid (HG.out.trans HG2.out);have HOW2:Hid (Own w2 w.heap.size 116 4 A j c (entsC ps)):=own_gb HW.out HG2.out.2 haw;have HMN:=Lib.hid (HM.out.step pre_ent (by have:=HL.out;omega) H2.out);have hws:w.heap.size≤w2.heap.size:=HGN.out.2.size;obtain⟨A3,c3,w3,hrun,how3,hb3⟩:=push entC_len entC_one (t:=32) Tryz.underlying32 infoE rfl (by omega) (by omega) w2 w.heap.size w2.heap.size rfl hws (.slice A j c) ps (by rw[HL.out];exact HOW2.out.row) x #[.int .i64 x.a,.int .i64 x.n,.string x.s,.int .i64 x.v] rfl (by have:=HL.out;omega)
     have hln:(ps++[x]).length=j+1:=by simp[HL.out]
     rw[hln]at hrun how3;have HG3:=Lib.hid (HGN.out.low HO.out (bs:=bs) (bad:=bad) hb3)
     have HL3:Hid ((ps++[x]).length=j+1):=by have:=HL.out;unfold Hid;simp[this]
     have Hrun:=Lib.hid hrun;have HOW3:=Lib.hid how3;clear HG HG2 HM H2 HW HOW2 hws hrun how3 hb3 HGN;go_wp2_with (at_builtin;refine Lib.wpList_append_run _ rfl _ _ _ _ rfl _ _ rfl rfl _ _ Hrun.out ?_);go_roundw
     case rel=>exact⟨j+1,c3,A3,ps++[x],r2,b2,by go_num,rfl,by omega,HL3,HOW3,HG3,HMN⟩
     case measure=>simp[intOf];omega
   ·have f2:decide ((0:Int)<(K:Int)-(j:Int))=false:=decide_eq_false (by omega)
    have f3:decide (j<K)=false:=decide_eq_false hlt;have f4:decide ((j:Int)<(K:Int))=false:=decide_eq_false (by omega);have HOne:=Lib.hid (HM.out.all fun h=>by have:=HL.out;omega)
    have HJ:Hid (j≤bs.length):=by have:=HKB.out;unfold Hid;omega
    clear HM hlt hin;go_wp2;go_ret;exact⟨ps,j,c,A,r,b,rfl,HL,HW,HG,HOne,HJ⟩
theorem gallSt_any {w:World} {l:List (Addr×Value)} {F:List Nat} {a:Nat} {bs:List UInt8} {bad:Bool} (hbs:bs.length≤100000) (h:InC w l F a bs bad) :
  Calls Tryz.prog 69 #[.pointer (some ⟨a,0,none⟩),.func (.func 70) #[] #[]] w fun e w'=>∃ (ps:List ByteArray) (n c:Nat) (A:Option Addr) (r:List UInt8) (b:Bool),e = .returned (.slice A n c)∧Hid (ps.length=n)∧Hid (Own w' w.heap.size 9 1 A n c (Tr.strs ps))∧Hid (Gt a w l F r b w')∧Hid (One (listB txtB) (fun l=>∀ y∈l,(TxtR 30) y) bs ps r b)∧Hid (n≤bs.length):=by
 have HO:=Lib.hid h;have haw:=h.at_.lt;have hin:=h.at_;clear h;go_enter Tryz.func69,Tryz.ntmps69;go_wp2_with fail;refine (left_any hin).mono ?_;rintro e w1 ⟨rfl,rfl⟩;clear hin;go_wp2_with fail;refine (gnum_in (bs.length:Int) (by omega) (by omega) HO.out).mono ?_;rintro e w1 ⟨N,r0,b0,rfl,HG,H1,HN⟩
 by_cases hneg:N<0
 ·have f1:decide (N<0)=true:=decide_eq_true hneg
  have f2:decide (0<N)=false:=decide_eq_false (by omega)
  have HM:Hid (Many txtB (TxtR 30) bs 0 [] [] true):=Many.no txtB_pos fun v x h1 h2 e=>by
   rcases H1.out with ⟨_,e1⟩ | ⟨_,_,hno⟩
   ·rw[e1]at e
    obtain⟨e3,_⟩:=numB_prefix e;omega
   ·exact hno v x ⟨by omega,by omega⟩ e
  have HOne:=Lib.hid (HM.out.all fun h=>by cases h);clear H1 HN hneg HM;go_wp2_with fail;refine (gfail_any HG.out.1).mono ?_;rintro e w2 ⟨rfl,HG2⟩;have HG3:=Lib.hid (HG.out.trans HG2.out);clear HG HG2;go_wp2_with fail
  go_loopw [5,6] (fun i s wr=>i = .int .i64 N∧s = .slice none 0 0∧Hid (wr=w2)) (fun _ _ _=>0)
  case atStart=>exact⟨rfl,rfl,rfl⟩
  case round=>
   obtain⟨rfl,rfl,HE⟩:=hrel
   have HG4:Hid (Gt a w l F [] true wr):=by unfold Hid;rw[HE.out];exact HG3.out
   clear HE;go_wp2;go_ret;exact⟨[],0,0,none,[],true,rfl,rfl,⟨World.ownsRow_nil _ _ _ _,by simp[Tr.strs]⟩,HG4,HOne,Nat.zero_le _⟩
 ·have f1:decide (N<0)=false:=decide_eq_false hneg
  obtain⟨K,rfl⟩:∃ K:Nat,N=(K:Int):=⟨N.toNat,by omega⟩
  have hKb:K≤bs.length:=by
   rcases HN.out with h | h
   ·omega
   ·have:=h.2;omega
  have HKB:=Lib.hid hKb
  have hK9:K≤100000:=by omega
  have HM:Hid (Many txtB (TxtR 30) bs K [] r0 b0):=by
   rcases H1.out with ⟨rfl,e1⟩ | ⟨rfl,rfl,hno⟩
   ·exact Many.zero e1
   ·exact Many.no txtB_pos fun v x h1 h2 e=>hno v x ⟨by omega,by omega⟩ e
  clear H1 HN hneg hKb;go_wp2_with fail
  go_loopw [5,6] (fun i s wr=>∃ (j c:Nat) (A:Option Addr) (ps:List ByteArray) (r:List UInt8) (b:Bool),i = .int .i64 ((K:Int)-(j:Int))∧s = .slice A j c∧j≤K∧Hid (ps.length=j)∧Hid (Own wr w.heap.size 9 1 A j c (Tr.strs ps))∧Hid (Gt a w l F r b wr)∧Hid (Many txtB (TxtR 30) bs K ps r b)) (fun i _ _=>(intOf i).toNat)
  case atStart=>exact⟨0,0,none,[],r0,b0,by simp,rfl,Nat.zero_le _,rfl,⟨World.ownsRow_nil _ _ _ _,by simp[Tr.strs]⟩,HG,HM⟩
  case round=>
   obtain⟨j,c,A,ps,r,b,rfl,rfl,hj,HL,HW,HG,HM⟩:=hrel;have hin:=HG.out.1.at_
   by_cases hlt:j<K
   ·have f2:decide ((0:Int)<(K:Int)-(j:Int))=true:=decide_eq_true (by omega)
    have f3:decide (j<K)=true:=decide_eq_true hlt;have f4:decide ((j:Int)<(K:Int))=true:=decide_eq_true (by omega)
    cases b with
    | true=>
     have HOne:=Lib.hid (HM.out.all fun h=>by cases h)
     have HJ:Hid (j≤bs.length):=by have:=HKB.out;unfold Hid;omega
     clear HM hlt;go_wp2_with (go_at_call 15;refine (bad_any hin).mono ?_;rintro e w9 ⟨rfl,rfl⟩);go_ret;exact⟨ps,j,c,A,r,true,rfl,HL,HW,HG,HOne,HJ⟩
    | false=>
     go_wp2_with fail;refine (bad_any hin).mono ?_;rintro e w9 ⟨rfl,rfl⟩;clear hin;go_wp2_with fail;refine (gtxt_any HG.out.1).mono ?_;rintro e w2 ⟨x,r2,b2,rfl,HG2,H2⟩;have HGN:=Lib.hid (HG.out.trans HG2.out);have HOW2:Hid (Own w2 w.heap.size 9 1 A j c (Tr.strs ps)):=own_gb HW.out HG2.out.2 haw;have HMN:=Lib.hid (HM.out.step pre_txt (by have:=HL.out;omega) H2.out);have hws:w.heap.size≤w2.heap.size:=HGN.out.2.size;obtain⟨A3,c3,w3,hrun,how3,hb3⟩:=push_str w2 w.heap.size w2.heap.size rfl HOW2.out hws x (by omega);have HG3:=Lib.hid (HGN.out.low HO.out (bs:=bs) (bad:=bad) hb3)
     have HL3:Hid ((ps++[x]).length=j+1):=by have:=HL.out;unfold Hid;simp[this]
     have Hrun:=Lib.hid hrun;have HOW3:=Lib.hid how3;clear HG HG2 HM H2 HW HOW2 hws hrun how3 hb3 HGN;go_wp2_with (at_builtin;refine Lib.wpList_append_run _ rfl _ _ _ _ rfl _ _ rfl rfl _ _ Hrun.out ?_);go_roundw
     case rel=>exact⟨j+1,c3,A3,ps++[x],r2,b2,by go_num,rfl,by omega,HL3,HOW3,HG3,HMN⟩
     case measure=>simp[intOf];omega
   ·have f2:decide ((0:Int)<(K:Int)-(j:Int))=false:=decide_eq_false (by omega)
    have f3:decide (j<K)=false:=decide_eq_false hlt;have f4:decide ((j:Int)<(K:Int))=false:=decide_eq_false (by omega);have HOne:=Lib.hid (HM.out.all fun h=>by have:=HL.out;omega)
    have HJ:Hid (j≤bs.length):=by have:=HKB.out;unfold Hid;omega
    clear HM hlt hin;go_wp2;go_ret;exact⟨ps,j,c,A,r,b,rfl,HL,HW,HG,HOne,HJ⟩
end Pk
end Go.Proofs.YtcbpgemiffmieaaGreat
set_option maxRecDepth 100000
set_option maxHeartbeats 4000000
namespace Go.Proofs.YtcbpgemiffmieaaGreat
open Go.ChangeShapes Go.WideShapes Go.ChangeAt Go.RowKit
namespace Pk
open Tr Cx Sp Rw Codec
def LevP (d:Nat):Prop:=∀ (w:World) (l:List (Addr×Value)) (F:List Nat) (a:Nat) (bs:List UInt8) (bad:Bool),bs.length≤100000→InC w l F a bs bad →
  Calls Tryz.prog 66 #[.pointer (some ⟨a,0,none⟩),.int .i64 ((d:Nat):Int)] w fun e w'=>∃ (t:T) (se sk:SV) (r:List UInt8) (b:Bool),e = .returned (.agg #[.slice se.A se.n se.c,.slice sk.A sk.n sk.c])∧Hid (RdO w' (fun z=>w.heap.size≤z) t se sk∧LenT reachBytes t)∧Hid (Gt a w l F r b w')∧Hid (One treeB (RightT d) bs t r b)
theorem gkid_any {d:Nat} {m:Int} (hm:m=((d:Nat):Int)+1) (hd:d≤100) (hlev:LevP d) {q:Nat} {w:World} {l:List (Addr×Value)} {F:List Nat} {a:Nat} {bs:List UInt8} {bad:Bool} (hbs:bs.length≤100000) (h:InC w ((⟨q,0,none⟩,.int .i64 m)::l) F a bs bad) :
  Calls Tryz.prog 99 #[.pointer (some ⟨a,0,none⟩),.pointer (some ⟨q,0,none⟩)] w fun e w'=>∃ (s:ByteArray) (t:T) (se sk:SV) (r:List UInt8) (b:Bool),e = .returned (.agg #[.string s,.slice se.A se.n se.c,.slice sk.A sk.n sk.c])∧Hid (RdO w' (fun z=>w.heap.size≤z) t se sk∧LenT reachBytes t)∧Hid (Gt a w ((⟨q,0,none⟩,.int .i64 m)::l) F r b w')∧Hid (One kidB (KidR d) bs (s,t) r b):=by
 have HO:=Lib.hid h;have HV:=Lib.hid hlev;have HG0:=Lib.hid (Gt.refl h)
 have hwr:IntKind.i64.wrap (m-1)=((d:Nat):Int):=by rw[hm,show ((d:Nat):Int)+1-1=((d:Nat):Int) by omega];exact IntWalk.i64_in _ (by omega)
 clear h hlev hm;obtain⟨p,hp⟩:∃ p,p=w.heap.size:=⟨_,rfl⟩;obtain⟨W,hW⟩:∃ W,W=w.alloc (.cells #[.string ⟨#[]⟩,.slice none 0 0,.slice none 0 0] 118):=⟨_,rfl⟩
 have HG1:Hid (Gt a w ([(⟨p,0,none⟩,.string ⟨#[]⟩),(⟨p,1,none⟩,.slice none 0 0),(⟨p,2,none⟩,.slice none 0 0)]++((⟨q,0,none⟩,.int .i64 m)::l)) ([p]++F) bs bad W):=by
  refine HG0.out.add (by rw[hW];exact Dt.box_below _ _ _) ?_ ?_
  ·intro x hx
   simp only[List.mem_cons,List.not_mem_nil,or_false]at hx
   rcases hx with rfl | rfl | rfl <;> exact⟨by dsimp only;omega,by rw[hW];simp <;> omega,by rw[hW,hp];go_simp⟩
  ·intro q hq
   simp only[List.mem_cons,List.not_mem_nil,or_false]at hq;subst hq;exact⟨by omega,by rw[hW,hp];simp,fun j=>by rw[hW,hp];go_simp⟩
 have HPW:Hid (w.heap.size≤p):=by unfold Hid;omega
 have hqp:¬q=p:=by
  have h1:=(HO.out.cells _ (List.mem_cons_self)).1;dsimp only at h1;omega
 have hpq:¬p=q:=fun h=>hqp h.symm
 have hszW:W.heap.size=p+1:=by rw[hW,hp];simp
 have HSZ:=Lib.hid hszW;have HW:=Lib.hid hW;have Hp:=Lib.hid hp;clear hp hW HG0 hszW;go_enter Tryz.func99,Tryz.ntmps99;go_wp2_with fail
 try rw[← HW.out]
 try rw[← Hp.out]
 refine wp_region_held_drew (S:=fun W=>W.cell? ⟨q,0,none⟩=some (.int .i64 m)) (by kernel_rfl) (by exact (HG1.out.later (bel_drewN (Below.refl _ _) 1)).c3) (fun hHeld=>?_);obtain⟨wz,hwz,hbz⟩:=drq W;have HG1:=Lib.hid (HG1.out.later hbz);rw[← hwz]at hHeld ⊢;clear hwz hbz;refine Tk 0 4 ?_;refine Tk 2 6 ?_;refine Tk 3 7 ?_;refine Tk 4 8 ?_;refine Tc 1 (fun K hK=>?_);go_simp;refine (gtxt_any HG1.out.1).mono ?_;rintro e v1 ⟨s,r3,b3,rfl,HG,H3⟩;have HG5:=Lib.hid (HG1.out.trans HG.out)
 have HR3:Hid (r3.length≤100000):=by have:=H3.out.le;unfold Hid;omega
 clear HG HG1

 clear hHeld;refine Th hK ?_ (fun hHeld=>?_)
 ·exact HG5.out.c3
 clear hK K;refine Tc 5 (fun K hK=>?_);go_simp;refine (HV.out v1 _ _ a r3 b3 HR3.out HG5.out.1).mono ?_;rintro e v2 ⟨t,⟨Ae,ne,ce⟩,⟨Ak,nk,ck⟩,r4,b4,rfl,HRT,HG,H4⟩;have HG6:=Lib.hid (HG5.out.trans HG.out)
 have HSV:Hid (p+1≤v1.heap.size):=by have h1:=HG5.out.2.size;have h2:=HSZ.out;have h3:=HG5.out.f0.1;unfold Hid;omega
 clear HG HG5;have HS:=Lib.hid (kid_one H3.out H4.out);have k0:=HG6.out.c0;have k1:=HG6.out.c1;have k2:=HG6.out.c2;have k3:=HG6.out.c3;have f0:=HG6.out.f0.2 0;have f1:=HG6.out.f0.2 1;have f2:=HG6.out.f0.2 2;obtain⟨W9,hW9⟩:∃ W,W=(((v2.setCell ⟨p,0,none⟩ (.string s)).setCell ⟨p,1,none⟩ (.slice Ae ne ce)).setCell ⟨p,2,none⟩ (.slice Ak nk ck)):=⟨_,rfl⟩
 have HB9:Hid (Below w.heap.size v2 W9):=by unfold Hid;rw[hW9];exact ((((Below.refl w.heap.size v2).setCell (p:=⟨p,0,none⟩) HPW.out _).setCell (p:=⟨p,1,none⟩) HPW.out _).setCell (p:=⟨p,2,none⟩) HPW.out _)
 have HG9:Hid (Gt a w ((⟨q,0,none⟩,.int .i64 m)::l) F r4 b4 W9):=(HG6.out.sub (l2:=((⟨q,0,none⟩,.int .i64 m)::l)) (F2:=F) (fun x hx=>List.mem_append_right _ hx) (fun x hx=>List.mem_append_right _ hx)).low HO.out HB9.out
 have HR9:Hid (RdO W9 (fun z=>w.heap.size≤z) t ⟨Ae,ne,ce⟩ ⟨Ak,nk,ck⟩):=by
  have h1:=RdO.mono (ok':=fun z=>p+1≤z) (fun z hz _=>by have:=HSV.out;omega) _ HRT.out.1;refine RdO.mono (fun z hz _=>by have:=HPW.out;omega) _ (RdO.keep (ok:=fun z=>p+1≤z) (by rw[hW9];simp[World.setCell]) (fun z hz _=>?_) _ h1);rw[hW9];exact ((Below.heap_setCell _ ⟨p,2,none⟩ _ z (by dsimp only;omega)).trans (Below.heap_setCell _ ⟨p,1,none⟩ _ z (by dsimp only;omega))).trans (Below.heap_setCell _ ⟨p,0,none⟩ _ z (by dsimp only;omega))
 have l0:W9.cell? ⟨p,0,none⟩=some (.string s):=by rw[hW9];go_simp
 have l1:W9.cell? ⟨p,1,none⟩=some (.slice Ae ne ce):=by rw[hW9];go_simp
 have l2:W9.cell? ⟨p,2,none⟩=some (.slice Ak nk ck):=by rw[hW9];go_simp
 have HW9:=Lib.hid hW9;clear hW9;refine hK.out _ _ ?_ (fun hHeld2=>?_)
 ·exact HG6.out.c3
 clear hK K hHeld;have hHeld:=hHeld2;clear hHeld2
 try simp only[]
 refine Tk 6 10 ?_;refine Tc 7 (fun K hK=>?_);go_simp;refine Th hK ?_ (fun hHeld2=>?_)
 ·go_simp
 clear hK K hHeld;have hHeld:=hHeld2;clear hHeld2;refine wpAnyH_done (by kernel_rfl) ?_ _;clear hHeld;go_wp2;rw[← HW9.out];exact bodyPost_ret (v:=.agg #[.string s,.slice Ae ne ce,.slice Ak nk ck]) (by simp[results,Tryz.results99,go_sem,l0,l1,l2]) rfl ⟨s,t,⟨Ae,ne,ce⟩,⟨Ak,nk,ck⟩,r4,b4,rfl,⟨HR9.out,HRT.out.2⟩,HG9,HS⟩
theorem gallKi_any {d:Nat} {m:Int} (hm:m=((d:Nat):Int)+1) (hd:d≤100) (hlev:LevP d) {q:Nat} {w:World} {l:List (Addr×Value)} {F:List Nat} {a:Nat} {bs:List UInt8} {bad:Bool} (hbs:bs.length≤100000) (h:InC w ((⟨q,0,none⟩,.int .i64 m)::l) F a bs bad) :
  Calls Tryz.prog 98 #[.pointer (some ⟨a,0,none⟩),.func (.func 99) #[] #[.pointer (some ⟨q,0,none⟩)]] w fun e w'=>∃ (ps:List (ByteArray×T)) (n c:Nat) (A:Option Addr) (kr:List (ByteArray×SV×SV)) (r:List UInt8) (b:Bool),e = .returned (.slice A n c)∧Hid (ps.length=n)∧Hid (KidRow w' (w.heap.size) 118 A n c ps kr∧∀ k∈ps,LenT reachBytes k.2)∧Hid (Gt a w ((⟨q,0,none⟩,.int .i64 m)::l) F r b w')∧Hid (One (listB kidB) (fun l=>∀ y∈l,(KidR d) y) bs ps r b)∧Hid (n≤bs.length):=by
 have HO:=Lib.hid h;have haw:=h.at_.lt;have hin:=h.at_;have HV:=Lib.hid hlev;have HMM:=Lib.hid hm;clear hlev hm;clear h;go_enter Tryz.func98,Tryz.ntmps98;go_wp2_with fail;refine (left_any hin).mono ?_;rintro e w1 ⟨rfl,rfl⟩;clear hin;go_wp2_with fail;refine (gnum_in (bs.length:Int) (by omega) (by omega) HO.out).mono ?_;rintro e w1 ⟨N,r0,b0,rfl,HG,H1,HN⟩
 by_cases hneg:N<0
 ·have f1:decide (N<0)=true:=decide_eq_true hneg
  have f2:decide (0<N)=false:=decide_eq_false (by omega)
  have HM:Hid (Many kidB (KidR d) bs 0 [] [] true):=Many.no kid_pos' fun v x h1 h2 e=>by
   rcases H1.out with ⟨_,e1⟩ | ⟨_,_,hno⟩
   ·rw[e1]at e
    obtain⟨e3,_⟩:=numB_prefix e;omega
   ·exact hno v x ⟨by omega,by omega⟩ e
  have HOne:=Lib.hid (HM.out.all fun h=>by cases h);clear H1 HN hneg HM;go_wp2_with fail;refine (gfail_any HG.out.1).mono ?_;rintro e w2 ⟨rfl,HG2⟩;have HG3:=Lib.hid (HG.out.trans HG2.out);clear HG HG2;go_wp2_with fail
  go_loopw [5,6] (fun i s wr=>i = .int .i64 N∧s = .slice none 0 0∧Hid (wr=w2)) (fun _ _ _=>0)
  case atStart=>exact⟨rfl,rfl,rfl⟩
  case round=>
   obtain⟨rfl,rfl,HE⟩:=hrel
   have HG4:Hid (Gt a w ((⟨q,0,none⟩,.int .i64 m)::l) F [] true wr):=by unfold Hid;rw[HE.out];exact HG3.out
   clear HE;go_wp2;go_ret;exact⟨[],0,0,none,[],[],true,rfl,rfl,⟨KidRow.nil _ _ _,by simp⟩,HG4,HOne,Nat.zero_le _⟩
 ·have f1:decide (N<0)=false:=decide_eq_false hneg
  obtain⟨K,rfl⟩:∃ K:Nat,N=(K:Int):=⟨N.toNat,by omega⟩
  have hKb:K≤bs.length:=by
   rcases HN.out with h | h
   ·omega
   ·have:=h.2;omega
  have HKB:=Lib.hid hKb
  have hK9:K≤100000:=by omega
  have HM:Hid (Many kidB (KidR d) bs K [] r0 b0):=by
   rcases H1.out with ⟨rfl,e1⟩ | ⟨rfl,rfl,hno⟩
   ·exact Many.zero e1
   ·exact Many.no kid_pos' fun v x h1 h2 e=>hno v x ⟨by omega,by omega⟩ e
  clear H1 HN hneg hKb;go_wp2_with fail
  go_loopw [5,6] (fun i s wr=>∃ (j c:Nat) (A:Option Addr) (kr:List (ByteArray×SV×SV)) (ps:List (ByteArray×T)) (r:List UInt8) (b:Bool),i = .int .i64 ((K:Int)-(j:Int))∧s = .slice A j c∧j≤K∧Hid (ps.length=j)∧Hid (KidRow wr (w.heap.size) 118 A j c ps kr∧∀ k∈ps,LenT reachBytes k.2)∧Hid (Gt a w ((⟨q,0,none⟩,.int .i64 m)::l) F r b wr)∧Hid (Many kidB (KidR d) bs K ps r b)) (fun i _ _=>(intOf i).toNat)
  case atStart=>exact⟨0,0,none,[],[],r0,b0,by simp,rfl,Nat.zero_le _,rfl,⟨KidRow.nil _ _ _,by simp⟩,HG,HM⟩
  case round=>
   obtain⟨j,c,A,kr,ps,r,b,rfl,rfl,hj,HL,HW,HG,HM⟩:=hrel;have hin:=HG.out.1.at_
   by_cases hlt:j<K
   ·have f2:decide ((0:Int)<(K:Int)-(j:Int))=true:=decide_eq_true (by omega)
    have f3:decide (j<K)=true:=decide_eq_true hlt;have f4:decide ((j:Int)<(K:Int))=true:=decide_eq_true (by omega)
    cases b with
    | true=>
     have HOne:=Lib.hid (HM.out.all fun h=>by cases h)
     have HJ:Hid (j≤bs.length):=by have:=HKB.out;unfold Hid;omega
     clear HM hlt;go_wp2_with (go_at_call 15;refine (bad_any hin).mono ?_;rintro e w9 ⟨rfl,rfl⟩);go_ret;exact⟨ps,j,c,A,kr,r,true,rfl,HL,HW,HG,HOne,HJ⟩
    | false=>
     go_wp2_with fail;refine (bad_any hin).mono ?_;rintro e w9 ⟨rfl,rfl⟩;clear hin;go_wp2_with fail;refine (gkid_any HMM.out hd HV.out (by have:=HM.out.le;omega) HG.out.1).mono ?_;rintro e w2 ⟨s,t,⟨Ae,ne,ce⟩,⟨Ak,nk,ck⟩,r2,b2,rfl,HR2,HG2,H2⟩;have HGN:=Lib.hid (HG.out.trans HG2.out);have HOW2:Hid (KidRow w2 (w.heap.size) 118 A j c ps kr∧∀ k∈ps,LenT reachBytes k.2):=⟨kid_gb HW.out.1 HG2.out.2 haw,HW.out.2⟩;have HMN:=Lib.hid (HM.out.step pre_kid (by have:=HL.out;omega) H2.out);have hws:w.heap.size≤w2.heap.size:=HGN.out.2.size;have hu:RdO w2 (fun z=>w.heap.size≤z∧(Value.slice A j c).ownBlock≠some z) t ⟨Ae,ne,ce⟩ ⟨Ak,nk,ck⟩:=RdO.mono (fun z hz _=>⟨Nat.le_trans HG.out.2.size hz,fun e=>by have:=(HW.out.1.own.row.lt z e).2;omega⟩) _ HR2.out.1;obtain⟨A3,c3,w3,hrun,hk3,hb3,_⟩:=KidRow.push (k:=(s,⟨Ae,ne,ce⟩,⟨Ak,nk,ck⟩)) (t:=33) Tryz.underlying33 infoK rfl (by omega) HOW2.out.1 w2.heap.size rfl hws hu (by omega) #[.string s,.slice Ae ne ce,.slice Ak nk ck] rfl
     have how3:KidRow w3 w.heap.size 118 A3 (j+1) c3 (ps++[(s,t)]) (kr++[(s,⟨Ae,ne,ce⟩,⟨Ak,nk,ck⟩)])∧∀ k∈ps++[(s,t)],LenT reachBytes k.2:=⟨hk3,fun k hk=>by
      rcases List.mem_append.1 hk with hk | hk
      ·exact HOW2.out.2 k hk
      ·rw[List.mem_singleton.1 hk]
       exact HR2.out.2⟩
     clear hu hk3;have HG3:=Lib.hid (HGN.out.low HO.out (bs:=bs) (bad:=bad) hb3)
     have HL3:Hid ((ps++[(s,t)]).length=j+1):=by have:=HL.out;unfold Hid;simp[this]
     have Hrun:=Lib.hid hrun;have HOW3:=Lib.hid how3;clear HG HG2 HM H2 HW HOW2 hws hrun how3 hb3 HGN;go_wp2_with (at_builtin;refine Lib.wpList_append_run _ rfl _ _ _ _ rfl _ _ rfl rfl _ _ Hrun.out ?_);go_roundw
     case rel=>exact⟨j+1,c3,A3,kr++[(s,⟨Ae,ne,ce⟩,⟨Ak,nk,ck⟩)],ps++[(s,t)],r2,b2,by go_num,rfl,by omega,HL3,HOW3,HG3,HMN⟩
     case measure=>simp[intOf];omega
   ·have f2:decide ((0:Int)<(K:Int)-(j:Int))=false:=decide_eq_false (by omega)
    have f3:decide (j<K)=false:=decide_eq_false hlt;have f4:decide ((j:Int)<(K:Int))=false:=decide_eq_false (by omega);have HOne:=Lib.hid (HM.out.all fun h=>by have:=HL.out;omega)
    have HJ:Hid (j≤bs.length):=by have:=HKB.out;unfold Hid;omega
    clear HM hlt hin;go_wp2;go_ret;exact⟨ps,j,c,A,kr,r,b,rfl,HL,HW,HG,HOne,HJ⟩
end Pk
end Go.Proofs.YtcbpgemiffmieaaGreat
set_option maxRecDepth 100000
set_option maxHeartbeats 4000000
namespace Go.Proofs.YtcbpgemiffmieaaGreat
open Go.ChangeShapes Go.WideShapes Go.ChangeAt Go.RowKit
namespace Pk
open Tr Cx Sp Rw Codec
theorem glev_zero {w:World} {l:List (Addr×Value)} {F:List Nat} {a:Nat} {bs:List UInt8} {bad:Bool} (h:InC w l F a bs bad) :
  Calls Tryz.prog 66 #[.pointer (some ⟨a,0,none⟩),.int .i64 0] w fun e w'=>∃ (t:T) (se sk:SV) (r:List UInt8) (b:Bool),e = .returned (.agg #[.slice se.A se.n se.c,.slice sk.A sk.n sk.c])∧Hid (RdO w' (fun z=>w.heap.size≤z) t se sk∧LenT reachBytes t)∧Hid (Gt a w l F r b w')∧Hid (One treeB (RightT 0) bs t r b):=by
 have HO:=Lib.hid h;have HG0:=Lib.hid (Gt.refl h);clear h;obtain⟨q,hq⟩:∃ q,q=w.heap.size:=⟨_,rfl⟩;obtain⟨p,hp⟩:∃ p,p=q+1:=⟨_,rfl⟩;obtain⟨W,hW⟩:∃ W,W=(w.alloc (.cells #[.int .i64 0] 3)).alloc (.cells #[.slice none 0 0,.slice none 0 0] 35):=⟨_,rfl⟩
 have HG1:Hid (Gt a w ([(⟨p,0,none⟩,.slice none 0 0),(⟨p,1,none⟩,.slice none 0 0)]++l) ([p]++F) bs bad W):=by
  refine HG0.out.add (by rw[hW];exact ((Below.refl _ _).alloc (Nat.le_refl _) _).alloc (by simp) _) ?_ ?_
  ·intro x hx
   simp only[List.mem_cons,List.not_mem_nil,or_false]at hx
   rcases hx with rfl | rfl <;> exact⟨by dsimp only;omega,by rw[hW];simp <;> omega,by rw[hW,hp,hq];go_simp⟩
  ·intro y hy
   simp only[List.mem_cons,List.not_mem_nil,or_false]at hy;subst hy;exact⟨by omega,by rw[hW,hp,hq];simp,fun j=>by rw[hW,hp,hq];go_simp⟩
 have HPW:Hid (w.heap.size≤p):=by unfold Hid;omega
 have HW:=Lib.hid hW;have Hq:=Lib.hid hq;have Hp:=Lib.hid hp;clear hp hq hW HG0;go_enter Tryz.func66,Tryz.ntmps66;go_wp2_with fail
 try rw[← HW.out]
 try rw[← Hq.out]
 try rw[← Hp.out]
 refine (gfail_any HG1.out.1).mono ?_;rintro e w1 ⟨rfl,HG⟩;have HG2:=Lib.hid (HG1.out.trans HG.out);clear HG HG1;have k0:=HG2.out.c0;have k1:=HG2.out.c1;have f0:=HG2.out.f0.2 0;have f1:=HG2.out.f0.2 1;obtain⟨W9,hW9⟩:∃ W,W=((w1.setCell ⟨p,0,none⟩ (.slice none 0 0)).setCell ⟨p,1,none⟩ (.slice none 0 0)):=⟨_,rfl⟩
 have HB9:Hid (Below w.heap.size w1 W9):=by unfold Hid;rw[hW9];exact (((Below.refl w.heap.size w1).setCell (p:=⟨p,0,none⟩) HPW.out _).setCell (p:=⟨p,1,none⟩) HPW.out _)
 have HG9:Hid (Gt a w l F [] true W9):=(HG2.out.sub (l2:=l) (F2:=F) (fun x hx=>by simp[hx]) (fun x hx=>by simp[hx])).low HO.out HB9.out
 have l0:W9.cell? ⟨p,0,none⟩=some (.slice none 0 0):=by rw[hW9];go_simp
 have l1:W9.cell? ⟨p,1,none⟩=some (.slice none 0 0):=by rw[hW9];go_simp
 have HW9:=Lib.hid hW9;clear hW9;go_wp2;rw[← HW9.out];exact bodyPost_ret (v:=.agg #[.slice none 0 0,.slice none 0 0]) (by simp[results,Tryz.results66,go_sem,l0,l1]) rfl ⟨none_,⟨none,0,0⟩,⟨none,0,0⟩,[],true,rfl,⟨RdO.none _ _ _ _ _ _,LenT.few (by simp[none_,nodes_mk])⟩,HG9,tree_zero⟩
theorem glev_succ {d:Nat} (hd:d≤99) (hlev:LevP d) (m:Int) (hm:m=((d:Nat):Int)+1) {w:World} {l:List (Addr×Value)} {F:List Nat} {a:Nat} {bs:List UInt8} {bad:Bool} (hbs:bs.length≤100000) (h:InC w l F a bs bad) :
  Calls Tryz.prog 66 #[.pointer (some ⟨a,0,none⟩),.int .i64 m] w fun e w'=>∃ (t:T) (se sk:SV) (r:List UInt8) (b:Bool),e = .returned (.agg #[.slice se.A se.n se.c,.slice sk.A sk.n sk.c])∧Hid (RdO w' (fun z=>w.heap.size≤z) t se sk∧LenT reachBytes t)∧Hid (Gt a w l F r b w')∧Hid (One treeB (RightT (d+1)) bs t r b):=by
 have HO:=Lib.hid h;have HG0:=Lib.hid (Gt.refl h);have HV:=Lib.hid hlev;have HMM:=Lib.hid hm
 have fm:(m==0)=false:=by rw[beq_eq_false_iff_ne];omega
 have haw:=h.at_.lt;clear h hlev hm;obtain⟨q,hq⟩:∃ q,q=w.heap.size:=⟨_,rfl⟩;obtain⟨p,hp⟩:∃ p,p=q+1:=⟨_,rfl⟩;obtain⟨W,hW⟩:∃ W,W=(w.alloc (.cells #[.int .i64 m] 3)).alloc (.cells #[.slice none 0 0,.slice none 0 0] 35):=⟨_,rfl⟩
 have hszW:W.heap.size=p+1:=by rw[hW,hp,hq];simp
 have HG1:Hid (Gt a w ([(⟨q,0,none⟩,.int .i64 m),(⟨p,0,none⟩,.slice none 0 0),(⟨p,1,none⟩,.slice none 0 0)]++l) ([p]++F) bs bad W):=by
  refine HG0.out.add (by rw[hW];exact ((Below.refl _ _).alloc (Nat.le_refl _) _).alloc (by simp) _) ?_ ?_
  ·intro x hx
   simp only[List.mem_cons,List.not_mem_nil,or_false]at hx
   rcases hx with rfl | rfl | rfl <;> exact⟨by dsimp only;omega,by dsimp only;omega,by rw[hW];(try rw[hp]);rw[hq];go_simp⟩
  ·intro y hy
   simp only[List.mem_cons,List.not_mem_nil,or_false]at hy;subst hy;exact⟨by omega,by rw[hW,hp,hq];simp,fun j=>by rw[hW,hp,hq];go_simp⟩
 have HPW:Hid (w.heap.size≤p):=by unfold Hid;omega
 have HSZ:=Lib.hid hszW;have HW:=Lib.hid hW;have Hq:=Lib.hid hq;have Hp:=Lib.hid hp;clear hp hq hW HG0 hszW;go_enter Tryz.func66,Tryz.ntmps66;go_wp2_with fail
 try rw[← HW.out]
 try rw[← Hq.out]
 try rw[← Hp.out]
 refine (gallEn_any hbs HG1.out.1).mono ?_;rintro e w1 ⟨es,ne,ce,Ae,r1,b1,rfl,hle,hoe,HG,H1,hne⟩;have HG2:=Lib.hid (HG1.out.trans HG.out)
 have hr1:r1.length≤100000:=by have:=H1.out.le;omega
 clear HG HG1;go_wp2_with fail;refine (gallKi_any HMM.out (by omega) HV.out hr1 HG2.out.1).mono ?_;rintro e w2 ⟨ks,nk,ck,Ak,kr,r2,b2,rfl,hlk,hok,HG,H2,hnk⟩;have HG3:=Lib.hid (HG2.out.trans HG.out)
 have haW:a<W.heap.size:=by have:=HSZ.out;have:=HPW.out;omega
 have HOE:Hid (Own w2 W.heap.size 116 4 Ae ne ce (entsC es)):=own_gb hoe.out HG.out.2 haW
 have HT:Hid (RdO w2 (fun z=>p+1≤z) (.mk es ks) ⟨Ae,ne,ce⟩ ⟨Ak,nk,ck⟩):=by
  have hsz1:W.heap.size≤w1.heap.size:=by have h1:=HG2.out.2.size;have h2:=HSZ.out;have h3:=HG2.out.f0.1;omega
  refine hok.out.1.tree (fun b hb _=>by have:=HSZ.out;omega) (se:=⟨Ae,ne,ce⟩) hle.out ((RO.of_own HOE.out).mono fun b hb _=>by have:=HSZ.out;omega)
 have HLT:Hid (LenT reachBytes (.mk es ks)):=.mk (by have h1:=hle.out;have h2:=hne.out;unfold reachBytes;omega) (by have h1:=hlk.out;have h2:=hnk.out;unfold reachBytes;omega) hok.out.2;have HS:=Lib.hid (tree_one H1.out H2.out);clear HG HG2 hoe hok;have k0:=HG3.out.c1;have k1:=HG3.out.c2;have f0:=HG3.out.f0.2 0;have f1:=HG3.out.f0.2 1;obtain⟨W9,hW9⟩:∃ W,W=((w2.setCell ⟨p,0,none⟩ (.slice Ae ne ce)).setCell ⟨p,1,none⟩ (.slice Ak nk ck)):=⟨_,rfl⟩
 have HB9:Hid (Below w.heap.size w2 W9):=by unfold Hid;rw[hW9];exact (((Below.refl w.heap.size w2).setCell (p:=⟨p,0,none⟩) HPW.out _).setCell (p:=⟨p,1,none⟩) HPW.out _)
 have HG9:Hid (Gt a w l F r2 b2 W9):=(HG3.out.sub (l2:=l) (F2:=F) (fun x hx=>by simp[hx]) (fun x hx=>by simp[hx])).low HO.out HB9.out
 have HR9:Hid (RdO W9 (fun z=>w.heap.size≤z) (.mk es ks) ⟨Ae,ne,ce⟩ ⟨Ak,nk,ck⟩):=by
  refine RdO.mono (fun z hz _=>by have:=HPW.out;omega) _ (RdO.keep (ok:=fun z=>p+1≤z) (by rw[hW9];simp[World.setCell]) (fun z hz _=>?_) _ HT.out);rw[hW9];exact ((Below.heap_setCell _ ⟨p,1,none⟩ _ z (by dsimp only;omega)).trans (Below.heap_setCell _ ⟨p,0,none⟩ _ z (by dsimp only;omega)))
 have l0:W9.cell? ⟨p,0,none⟩=some (.slice Ae ne ce):=by rw[hW9];go_simp
 have l1:W9.cell? ⟨p,1,none⟩=some (.slice Ak nk ck):=by rw[hW9];go_simp
 have HW9:=Lib.hid hW9;clear hW9;go_wp2;rw[← HW9.out];exact bodyPost_ret (v:=.agg #[.slice Ae ne ce,.slice Ak nk ck]) (by simp[results,Tryz.results66,go_sem,l0,l1]) rfl ⟨.mk es ks,⟨Ae,ne,ce⟩,⟨Ak,nk,ck⟩,r2,b2,rfl,⟨HR9.out,HLT.out⟩,HG9,HS⟩
theorem glev_any:∀ d:Nat,d≤100→LevP d
 | 0,_=>fun _ _ _ _ _ _ _ h=>glev_zero h
 | d+1,hd=>fun _ _ _ _ _ _ hb h=>glev_succ (by omega) (glev_any d (by omega)) _ (by omega) hb h
end Pk
end Go.Proofs.YtcbpgemiffmieaaGreat
set_option maxRecDepth 100000
set_option maxHeartbeats 4000000
namespace Go.Proofs.YtcbpgemiffmieaaGreat
open Go.ChangeShapes Go.WideShapes Go.ChangeAt Go.RowKit
namespace Pk
open Tr Cx Sp Rw Codec
theorem gstands_any (z:Bool) {w:World} {l:List (Addr×Value)} {F:List Nat} {a:Nat} {bs:List UInt8} {bad:Bool} (h:InC w l F a bs bad) :
  Calls Tryz.prog 64 #[.pointer (some ⟨a,0,none⟩),.bool z] w fun e w'=>e = .returned (.bool (z && !bad))∧Hid (Gt a w l F (if z && !bad then bs else []) (!(z && !bad)) w'):=by
 have HO:=Lib.hid h;have hin:=h.at_;have hn:=h.at_.none_;have HG0:=Lib.hid (Gt.refl h);clear h
 cases z with
 | false=>
  go_enter Tryz.func64,Tryz.ntmps64;go_wp2_with fail;refine (gfail_any HO.out).mono ?_;rintro e w1 ⟨rfl,HG⟩;go_wp2;go_ret;exact⟨rfl,HG⟩
 | true=>
  go_enter Tryz.func64,Tryz.ntmps64
  cases bad with
  | true=>
   obtain rfl:=hn rfl;go_wp2_with (go_at_call 15;refine (bad_any hin).mono ?_;rintro e w9 ⟨rfl,rfl⟩);go_ret;exact⟨rfl,HG0⟩
  | false=>
   go_wp2_with (go_at_call 15;refine (bad_any hin).mono ?_;rintro e w9 ⟨rfl,rfl⟩);go_ret;exact⟨rfl,HG0⟩
theorem getctx_any {w:World} {l:List (Addr×Value)} {F:List Nat} {a:Nat} {bs:List UInt8} {bad:Bool} (hbs:bs.length≤100000) (h:InC w l F a bs bad) :
  Calls Tryz.prog 24 #[.pointer (some ⟨a,0,none⟩)] w fun e w'=>∃ (u:List S3) (n c:Nat) (A:Option Addr) (r:List UInt8) (b:Bool),e = .returned (.slice A n c)∧Hid (u.length=n)∧Hid (Own w' w.heap.size 100 3 A n c (spsC u))∧Hid (Gt a w l F r b w')∧Hid (Got ctxB RightC [] bs u r b):=by
 have HO:=Lib.hid h;have haw:=h.at_.lt;clear h;go_enter Tryz.func24,Tryz.ntmps24;go_wp2_with fail;refine (gallSp_any hbs HO.out).mono ?_;rintro e w1 ⟨xs,n,c,A,r,b,rfl,hl,ho,HG,H1,hn⟩;obtain⟨z,hz⟩:∃ z,rightCB xs=z:=⟨_,rfl⟩;have HC:=Lib.hid (rightC_any xs n A c w1 hl.out (by have:=hn.out;omega) ho.out.rd z hz);have HZ:=Lib.hid hz;clear hz;go_wp2_with fail;refine HC.out.mono ?_;rintro e w2 ⟨rfl,hb2⟩;have HG2:=Lib.hid (HG.out.later hb2);have HO2:=Lib.hid (own_later ho.out hb2);clear HG ho hb2 HC;go_wp2_with fail;refine (gstands_any z HG2.out.1).mono ?_;rintro e w3 ⟨rfl,HG⟩;have HG3:=Lib.hid (HG2.out.trans HG.out);have HO3:=Lib.hid (own_gb HO2.out HG.out.2 haw);obtain⟨ok,hok⟩:∃ k,(z && !b)=k:=⟨_,rfl⟩
 have HS:∀ u,u=(if ok then xs else [])→Hid (Got ctxB RightC [] bs u (if ok then r else []) (!ok)):=fun u hu=>Got.of pre_ctx (R:=fun l=>∀ y∈l,SpanR y) H1.out (fun y hy s hs=>right_spR hy hs) ⟨fun h=>of_rightCB (by rw[HZ.out];exact h),fun h=>by rw[← HZ.out];exact rightCB_true h⟩ ok hok hu
 rw[hok]at HG3 ⊢;clear HG HG2 HO2 H1 hok
 cases ok with
 | true=>
  have HS1:=HS xs rfl;clear HS;go_wp2;go_ret;exact⟨xs,n,c,A,r,false,rfl,hl,HO3,HG3,HS1⟩
 | false=>
  have HS1:=HS [] rfl;clear HS;go_wp2;go_ret;exact⟨[],0,0,none,[],true,rfl,rfl,⟨World.ownsRow_nil _ _ _ _,by simp[spsC]⟩,HG3,HS1⟩
end Pk
end Go.Proofs.YtcbpgemiffmieaaGreat
namespace Go.Proofs.YtcbpgemiffmieaaGreat
open Go.ChangeShapes Go.WideShapes Go.ChangeAt Go.RowKit
namespace Pk
open Tr Cx Sp Rw Codec
theorem rdO_gb {w w':World} {ok:Nat→Prop} {t:T} {se sk:SV} {a:Nat} (h:RdO w ok t se sk) (hg:w.grownBy w' (some a)) (ha:∀ z,ok z→z≠a):RdO w' ok t se sk:=RdO.keep hg.size (fun b hb hlt=>hg.block b hlt (fun e=>ha b hb (by injection e))) t h
set_option maxRecDepth 100000 in
set_option maxHeartbeats 4000000 in
theorem gettree_any {w:World} {l:List (Addr×Value)} {F:List Nat} {a:Nat} {bs:List UInt8} {bad:Bool} (hbs:bs.length≤100000) (h:InC w l F a bs bad) :
  Calls Tryz.prog 26 #[.pointer (some ⟨a,0,none⟩)] w fun e w'=>∃ (u:T) (se sk:SV) (r:List UInt8) (b:Bool),e = .returned (.agg #[.slice se.A se.n se.c,.slice sk.A sk.n sk.c])∧Hid (RdO w' (fun z=>w.heap.size≤z) u se sk)∧Hid (Gt a w l F r b w')∧Hid (Got treeB (RightT 5) none_ bs u r b):=by
 have HO:=Lib.hid h;have HG0:=Lib.hid (Gt.refl h);have haw:=h.at_.lt;clear h;obtain⟨p,hp⟩:∃ p,p=w.heap.size:=⟨_,rfl⟩;obtain⟨W,hW⟩:∃ W,W=w.alloc (.cells #[.slice none 0 0,.slice none 0 0] 35):=⟨_,rfl⟩
 have HG1:Hid (Gt a w ([(⟨p,0,none⟩,.slice none 0 0),(⟨p,1,none⟩,.slice none 0 0)]++l) ([p]++F) bs bad W):=by
  refine HG0.out.add (by rw[hW];exact Dt.box_below _ _ _) ?_ ?_
  ·intro x hx
   simp only[List.mem_cons,List.not_mem_nil,or_false]at hx
   rcases hx with rfl | rfl <;> exact⟨by dsimp only;omega,by rw[hW];simp <;> omega,by rw[hW,hp];go_simp⟩
  ·intro q hq
   simp only[List.mem_cons,List.not_mem_nil,or_false]at hq;subst hq;exact⟨by omega,by rw[hW,hp];simp,fun j=>by rw[hW,hp];go_simp⟩
 have HPW:Hid (w.heap.size≤p):=by unfold Hid;omega
 have hap:a<p:=by omega
 have hszW:W.heap.size=p+1:=by rw[hW,hp];simp
 have HSZ:=Lib.hid hszW;have HW:=Lib.hid hW;have Hp:=Lib.hid hp;clear hp hW HG0 hszW;go_enter Tryz.func26,Tryz.ntmps26;go_wp2_with fail
 try rw[← HW.out]
 try rw[← Hp.out]
 have HC:Calls Tryz.prog 66 #[.pointer (some ⟨a,0,none⟩),.int .i64 5] W _:=glev_any 5 (by omega) W _ _ a bs bad hbs HG1.out.1;refine HC.mono ?_;rintro e w1 ⟨t,⟨Ae,ne,ce⟩,⟨Ak,nk,ck⟩,r,b,rfl,HRT,HG,H1⟩;have HGN:=Lib.hid (HG1.out.trans HG.out);clear HG HG1 HC;have HG:=Lib.hid HGN.out;have HT:Hid (RdO w1 (fun z=>p+1≤z) t ⟨Ae,ne,ce⟩ ⟨Ak,nk,ck⟩):=RdO.mono (fun z hz _=>by have:=HSZ.out;omega) _ HRT.out.1;have HLT:=Lib.hid HRT.out.2;clear HRT HGN;obtain⟨s,hs⟩:∃ s,s=w1.heap.size:=⟨_,rfl⟩;obtain⟨WS,hWS⟩:∃ W,W=w1.alloc (.cells #[.slice Ae ne ce,.slice Ak nk ck] 35):=⟨_,rfl⟩
 have hbS:Below w1.heap.size w1 WS:=by rw[hWS];exact Dt.box_below _ _ _
 have HGS:Hid (Gt a w ([(⟨s,0,none⟩,.slice Ae ne ce),(⟨s,1,none⟩,.slice Ak nk ck)]++([(⟨p,0,none⟩,.slice none 0 0),(⟨p,1,none⟩,.slice none 0 0)]++l)) ([]++([p]++F)) r b WS):=by
  refine HG.out.add hbS ?_ (by simp);intro x hx;simp only[List.mem_cons,List.not_mem_nil,or_false]at hx
  rcases hx with rfl | rfl <;> exact⟨by dsimp only;omega,by rw[hWS];simp <;> omega,by rw[hWS,hs];go_simp⟩
 have hps:p<s:=by have h1:=HG.out.f0.1;omega
 have hsp:¬s=p:=by omega
 have hpsn:¬p=s:=by omega
 have HT9:Hid (RdO WS (fun z=>p+1≤z) t ⟨Ae,ne,ce⟩ ⟨Ak,nk,ck⟩):=HT.out.later hbS;clear HT;have HT:=Lib.hid HT9.out;clear HT9;have HWS:=Lib.hid hWS;have Hs:=Lib.hid hs;clear hs hWS hbS HG;obtain⟨z,hz⟩:∃ z,rightB 5 t=z:=⟨_,rfl⟩;have HC:=Lib.hid (rightT_any t Ae Ak ne nk ce ck WS HLT.out (RdO.rd _ HT.out));rw[hz]at HC;have HZ:=Lib.hid hz;clear hz;go_wp2_with fail;rw[← HWS.out]
 try rw[← Hs.out]
 refine (HC.out).mono ?_;rintro e v1 ⟨rfl,hb1⟩;have HG:=Lib.hid (HGS.out.later hb1);have HT9:Hid (RdO v1 (fun z=>p+1≤z) t ⟨Ae,ne,ce⟩ ⟨Ak,nk,ck⟩):=HT.out.later hb1;clear HT;have HT:=Lib.hid HT9.out;clear HT9;clear HGS hb1;go_wp2_with fail;refine (gstands_any z HG.out.1).mono ?_;rintro e v2 ⟨rfl,HG2⟩;have HG3:=Lib.hid (HG.out.trans HG2.out);have HT9:Hid (RdO v2 (fun z=>p+1≤z) t ⟨Ae,ne,ce⟩ ⟨Ak,nk,ck⟩):=rdO_gb HT.out HG2.out.2 (fun z hz=>by omega);clear HT;have HT:=Lib.hid HT9.out;clear HT9;obtain⟨ok,hok⟩:∃ k,(z && !b)=k:=⟨_,rfl⟩
 have HS:∀ u,u=(if ok then t else none_)→Hid (Got treeB (RightT 5) none_ bs u (if ok then r else []) (!ok)):=fun u hu=>Got.of pre_tree H1.out (fun y hy=>hy) (by rw[← HZ.out];exact rightB_iff) ok hok hu
 rw[hok]at HG3 ⊢;clear HG HG2 hok
 cases ok with
 | true=>
  have k0:=HG3.out.cell (p:=⟨p,0,none⟩) (v:=.slice none 0 0) (by simp);have k1:=HG3.out.cell (p:=⟨p,1,none⟩) (v:=.slice none 0 0) (by simp);have j0:=HG3.out.cell (p:=⟨s,0,none⟩) (v:=.slice Ae ne ce) (by simp);have j1:=HG3.out.cell (p:=⟨s,1,none⟩) (v:=.slice Ak nk ck) (by simp);have f0:=(HG3.out.1.free p (by simp)).1.2 0;have f1:=(HG3.out.1.free p (by simp)).1.2 1;obtain⟨W9,hW9⟩:∃ W,W=((v2.setCell ⟨p,0,none⟩ (.slice Ae ne ce)).setCell ⟨p,1,none⟩ (.slice Ak nk ck)):=⟨_,rfl⟩
  have HB9:Hid (Below w.heap.size v2 W9):=by unfold Hid;rw[hW9];exact (((Below.refl w.heap.size v2).setCell (p:=⟨p,0,none⟩) HPW.out _).setCell (p:=⟨p,1,none⟩) HPW.out _)
  have HG9:Hid (Gt a w l F r false W9):=(HG3.out.sub (l2:=l) (F2:=F) (fun x hx=>List.mem_append_right _ (List.mem_append_right _ hx)) (fun x hx=>List.mem_append_right _ (List.mem_append_right _ hx))).low HO.out HB9.out
  have HTW:Hid (RdO W9 (fun z=>w.heap.size≤z) t ⟨Ae,ne,ce⟩ ⟨Ak,nk,ck⟩):=by
   refine RdO.mono (fun z hz _=>by have:=HPW.out;omega) _ (RdO.keep (ok:=fun z=>p+1≤z) (by rw[hW9];simp[World.setCell]) (fun z hz _=>?_) _ HT.out);rw[hW9];exact ((Below.heap_setCell _ ⟨p,1,none⟩ _ z (by dsimp only;omega)).trans (Below.heap_setCell _ ⟨p,0,none⟩ _ z (by dsimp only;omega)))
  have l0:W9.cell? ⟨p,0,none⟩=some (.slice Ae ne ce):=by rw[hW9];go_simp
  have l1:W9.cell? ⟨p,1,none⟩=some (.slice Ak nk ck):=by rw[hW9];go_simp
  have HW9:=Lib.hid hW9;clear hW9;have HS1:=HS _ rfl;clear HS;go_wp2;rw[← HW9.out];exact bodyPost_ret (v:=.agg #[.slice Ae ne ce,.slice Ak nk ck]) (by simp[results,Tryz.results26,go_sem,l0,l1]) rfl ⟨t,⟨Ae,ne,ce⟩,⟨Ak,nk,ck⟩,r,false,rfl,HTW,HG9,HS1⟩
 | false=>
  have k0:=HG3.out.cell (p:=⟨p,0,none⟩) (v:=.slice none 0 0) (by simp);have k1:=HG3.out.cell (p:=⟨p,1,none⟩) (v:=.slice none 0 0) (by simp);have j0:=HG3.out.cell (p:=⟨s,0,none⟩) (v:=.slice Ae ne ce) (by simp);have j1:=HG3.out.cell (p:=⟨s,1,none⟩) (v:=.slice Ak nk ck) (by simp);have f0:=(HG3.out.1.free p (by simp)).1.2 0;have f1:=(HG3.out.1.free p (by simp)).1.2 1;obtain⟨W9,hW9⟩:∃ W,W=((v2.setCell ⟨p,0,none⟩ (.slice none 0 0)).setCell ⟨p,1,none⟩ (.slice none 0 0)):=⟨_,rfl⟩
  have HB9:Hid (Below w.heap.size v2 W9):=by unfold Hid;rw[hW9];exact (((Below.refl w.heap.size v2).setCell (p:=⟨p,0,none⟩) HPW.out _).setCell (p:=⟨p,1,none⟩) HPW.out _)
  have HG9:Hid (Gt a w l F [] true W9):=(HG3.out.sub (l2:=l) (F2:=F) (fun x hx=>List.mem_append_right _ (List.mem_append_right _ hx)) (fun x hx=>List.mem_append_right _ (List.mem_append_right _ hx))).low HO.out HB9.out
  have l0:W9.cell? ⟨p,0,none⟩=some (.slice none 0 0):=by rw[hW9];go_simp
  have l1:W9.cell? ⟨p,1,none⟩=some (.slice none 0 0):=by rw[hW9];go_simp
  have HW9:=Lib.hid hW9;clear hW9;have HS1:=HS _ rfl;clear HS;go_wp2;rw[← HW9.out];exact bodyPost_ret (v:=.agg #[.slice none 0 0,.slice none 0 0]) (by simp[results,Tryz.results26,go_sem,l0,l1]) rfl ⟨none_,⟨none,0,0⟩,⟨none,0,0⟩,[],true,rfl,RdO.none _ _ _ _ _ _,HG9,HS1⟩
end Pk
end Go.Proofs.YtcbpgemiffmieaaGreat
namespace Go.Proofs.YtcbpgemiffmieaaGreat
open Go.ChangeShapes Go.WideShapes Go.ChangeAt Go.RowKit
namespace Cs
open Tr Cx Sp Rw
end Cs
end Go.Proofs.YtcbpgemiffmieaaGreat
namespace Go.Proofs.YtcbpgemiffmieaaGreat
open Go.ChangeShapes Go.WideShapes Go.ChangeAt Go.RowKit
namespace Tr
open Sp Rw
end Tr
end Go.Proofs.YtcbpgemiffmieaaGreat
namespace Go.Proofs.YtcbpgemiffmieaaGreat
open Go.ChangeShapes Go.WideShapes Go.ChangeAt Go.RowKit
namespace Tr
open Sp Rw
section
variable {α:Type} {lt:α→α→Prop} {ab:α→Prop} {m:List α} {x b:α} {r:Option α}
end
theorem _root_.Go.Proofs.YtcbpgemiffmieaaGreat.Free.low {g B:Nat} {w w':World} (h:Free g w) (hb:Below B w w') (hg:g<B) (hs:w.heap.size≤w'.heap.size):Free g w':=⟨Nat.lt_of_lt_of_le h.1 hs,fun j=>(hb.frozen (p:=⟨g,j,none⟩) hg).trans (h.2 j)⟩
def lastK (ks:List (ByteArray×T)) (j:Nat):ByteArray:=match j with | 0=>⟨#[]⟩ | j+1=>((ks.map fun x=>x.1)[j]?).getD ⟨#[]⟩
end Tr
end Go.Proofs.YtcbpgemiffmieaaGreat
namespace Go.Proofs.YtcbpgemiffmieaaGreat
open Go.ChangeShapes Go.WideShapes Go.ChangeAt Go.RowKit
namespace Tr
open Sp Rw
set_option maxRecDepth 100000 in
set_option maxHeartbeats 4000000 in
theorem refdots_own (t:T) (Ae Ak:Option Addr) (ne nk ce ck:Nat) (w:World) (hn:nodes t≤10000) (hr:RdT w w.heap.size t ⟨Ae,ne,ce⟩ ⟨Ak,nk,ck⟩) (hg:Cx.goodD (dl t)) (u:List Cx.S3) (hu:Cx.OfC (dl t) u) (q:Nat) (hq:u.length=q) (hq8:q≤800000) :
  Calls Tryz.prog 57 #[.agg #[.slice Ae ne ce,.slice Ak nk ck]] w fun e w'=>∃ A' c',e = .returned (.slice A' q c')∧Own w' w.heap.size 100 3 A' q c' (spsC u)∧Below w.heap.size w w':=by
 have HR:=Lib.hid hr;have HN:=Lib.hid hn;have HU:=Lib.hid hu;have HQ:=Lib.hid hq;have HG2:=Lib.hid hg;have HQ8:=Lib.hid hq8;clear hr hn hu hq hg hq8;obtain⟨g,hg⟩:∃ g,g=w.heap.size:=⟨_,rfl⟩;have HK:=Lib.hid (tree_box w Ae Ak ne nk ce ck);rw[← hg]at HK;obtain⟨W0,hW0⟩:∃ W,W=w.alloc (.cells #[.slice Ae ne ce,.slice Ak nk ck] 35):=⟨_,rfl⟩;rw[← hW0]at HK;have HG:=Lib.hid hg;have HW0:=Lib.hid hW0;have k0:=HK.out.c0;have k1:=HK.out.c1;clear hg hW0;go_enter Tryz.func57,Tryz.ntmps57;go_wp2_with fail;rw[← HG.out,← HW0.out];refine (leaves_any t Ae Ak ne nk ce ck W0 (by have:=HN.out;omega) (RdT.more HK.out.below.size _ (RdT.below HR.out HK.out.below))).mono ?_;rintro e w1 ⟨Al,cl,rfl,hl,hb1⟩;have HK1:=Lib.hid (HK.out.later hb1);have HLF:=Lib.hid hl
 obtain⟨n,hn⟩:∃ n,n=(leaves t).length:=⟨_,rfl⟩;rw[← hn]at HLF ⊢;have HNN:=Lib.hid hn
 have hn1:n≤10000:=by have:=leaves_nodes t;have:=HN.out;omega
 clear k0 k1 hb1 hl hn;go_wp2_with fail
 go_loopw [3,10] (fun v i wr=>∃ (k:Nat) (Ax:Option Addr) (cx:Nat),k≤n∧i = .int .i64 k∧v = .slice Ax k cx∧Hid (Own wr w1.heap.size 114 2 Ax k cx (((leaves t).take k).map (fun x=>dotE x.2) |>.flatMap Cx.dotC))∧Hid (Gr w1 wr (.slice none 0 0) (.slice Ax k cx))) (fun _ i _=>n-(intOf i).toNat)
 case atStart=>exact⟨0,none,0,by omega,rfl,rfl,⟨World.ownsRow_nil _ _ _ _,by simp⟩,Gr.refl _ _⟩
 case round=>
  obtain⟨k,Ax,cx,hk,rfl,rfl,HO,HGR⟩:=hrel;have hbw:Below w1.heap.size w1 wr:=HGR.out.below (Nat.le_refl _) (fun k hk=>by simp[Value.ownBlock]at hk)
  by_cases hlt:k<n
  ·have hkl:k<(leaves t).length:=by rw[← HNN.out];exact hlt
   obtain⟨b,o,rfl,hb,hc⟩:=LfRd.at_ HLF.out (by omega);obtain⟨s,_,c1,c2,c3,c4,_,_⟩:=hc k hkl;have c1:=(hbw.cell (p:=⟨b,o+k*5+1,none⟩) hb).trans c1;have c2:=(hbw.cell (p:=⟨b,o+k*5+2,none⟩) hb).trans c2
   have HSUC:Hid (((leaves t).take (k+1)).map (fun x=>dotE x.2)=((leaves t).take k).map (fun x=>dotE x.2)++[(((leaves t)[k]).2.a,((leaves t)[k]).2.n)]):=by unfold Hid;rw[List.take_succ_eq_append_getElem hkl,List.map_append];rfl
   obtain⟨ea,hea⟩:∃ x,x=((leaves t)[k]).2.a:=⟨_,rfl⟩;obtain⟨en,hen⟩:∃ x,x=((leaves t)[k]).2.n:=⟨_,rfl⟩;rw[← hea]at c1 HSUC;rw[← hen]at c2 HSUC;obtain⟨A6,c6,w6,r1,r2,r3⟩:=push_dot wr w1.heap.size wr.heap.size rfl HO.out hbw.size (ea,en) (by omega)
   have HO6:Hid (Own w6 w1.heap.size 114 2 A6 (k+1) c6 (((leaves t).take (k+1)).map (fun x=>dotE x.2) |>.flatMap Cx.dotC)):=by unfold Hid;rw[HSUC.out];exact r2
   have HGR6:Hid (Gr w1 w6 (.slice none 0 0) (.slice A6 (k+1) c6)):=HGR.out.trans r3;have Hrun:=Lib.hid r1;clear hc hea hen r1 r2 r3 HSUC c3 c4 hbw;go_wp2_with (at_builtin;refine Lib.wpList_append_run _ rfl _ _ _ _ rfl _ _ rfl rfl _ _ Hrun.out ?_);go_roundw
   case rel=>exact⟨k+1,A6,c6,by omega,by go_num,rfl,HO6.out,HGR6.out⟩
   case measure=>simp[intOf];omega
  ·obtain rfl:k=n:=by omega
   have hrd:Rd wr wr.heap.size 2 Ax k cx ((dl t).flatMap Cx.dotC):=by
    have h1:=HO.out;rw[List.take_of_length_le (by rw[← HNN.out];omega)]at h1;exact h1.rd
   have hof:=Cx.refofC_own (dl t) k Ax cx wr (by rw[dl_len];exact HNN.out.symm) hn1 hrd HG2.out u HU.out q HQ.out HQ8.out;have HOF:=Lib.hid hof;have HB:=Lib.hid (HK1.out.below.trans (hbw.mono HK1.out.below.size));clear hrd hof hbw;go_wp2_with fail;refine HOF.out.mono ?_;rintro e w3 ⟨A3,c3,rfl,hr3,hb3⟩;have HR3:=Lib.hid (hr3.mono HB.out.size);have HB3:=Lib.hid (HB.out.trans (hb3.mono HB.out.size));clear hr3 hb3;go_wp2_with fail;go_ret;exact⟨A3,c3,rfl,HR3.out,HB3.out⟩
theorem refdots_any (t:T) (Ae Ak:Option Addr) (ne nk ce ck:Nat) (w:World) (hn:nodes t≤10000) (hr:RdT w w.heap.size t ⟨Ae,ne,ce⟩ ⟨Ak,nk,ck⟩) (hg:Cx.goodD (dl t)) (u:List Cx.S3) (hu:Cx.OfC (dl t) u) (q:Nat) (hq:u.length=q) (hq8:q≤800000) :
  Calls Tryz.prog 57 #[.agg #[.slice Ae ne ce,.slice Ak nk ck]] w fun e w'=>∃ A' c',e = .returned (.slice A' q c')∧Rd w' w'.heap.size 3 A' q c' (spsC u)∧Below w.heap.size w w':=
 (refdots_own t Ae Ak ne nk ce ck w hn hr hg u hu q hq hq8).mono fun e w' h=>by
  obtain⟨A',c',h1,h2,h3⟩:=h;exact⟨A',c',h1,h2.rd,h3⟩
end Tr
end Go.Proofs.YtcbpgemiffmieaaGreat
namespace Go.Proofs.YtcbpgemiffmieaaGreat
open Go.ChangeShapes Go.WideShapes Go.ChangeAt Go.RowKit
namespace Pk
open Tr Cx Sp Rw Codec
theorem nodes_le:∀ t:T,nodes t≤(treeB t).length:=by
 intro t
 induction t using T.ind with
 | h es ks ih=>
  rw[treeB_mk,nodes_mk];unfold listB;have g1:=list_len (f:=entB) (l:=es) fun a _=>ent_pos a
  have g4:∀ l:List (ByteArray×T),(∀ k∈l,k∈ks)→l.length+(l.map fun k=>nodes k.2).sum≤(l.flatMap kidB).length:=by
   intro l
   induction l with
   | nil=>intro _;simp
   | cons k l il=>
    intro hk;have b1:=ih k (hk k (List.mem_cons_self));have b3:=il fun q hq=>hk q (List.mem_cons_of_mem _ hq)
    have b4:(kidB k).length=(txtB k.1).length+(treeB k.2).length:=by unfold kidB;rw[List.length_append]
    have b5:1≤(txtB k.1).length:=by unfold txtB;have:=numB_pos k.1.size;rw[List.length_append];omega
    rw[List.flatMap_cons,List.length_append,List.length_cons,List.map_cons,List.sum_cons];omega
  have g5:=g4 ks fun _ h=>h;simp only[List.length_append];omega
def ToTreeS (bs:List UInt8) (t:T) (rest:List UInt8) (b:Bool):Prop:=(b=false∧bs=treeB t++rest∧RightT 5 t)∨(b=true∧rest=[]∧t=none_∧NoT bs 5)
theorem TreeS.no {bs rest:List UInt8} {t:T} (h:TreeS bs 5 t rest false) (hr:rightB 5 t=false):NoT bs 5:=fun u x hu e=>by
 rcases h with ⟨_,h⟩ | ⟨h,_⟩
 ·rw[h]at e
  obtain⟨e1,_⟩:=pre_tree _ _ _ _ e;rw[← e1]at hu;rw[rightB_iff.2 hu]at hr
  cases hr
 ·cases h
theorem TreeS.not {bs rest:List UInt8} {t:T} (h:TreeS bs 5 t rest true):NoT bs 5:=by
 rcases h with ⟨h,_⟩ | ⟨_,_,h⟩
 ·cases h
 ·exact h
def ToTreeP (w:World) (B:Nat) (bs:List UInt8) (e:Ending) (w':World):Prop:=
 ∃ (t:T) (Ae:Option Addr) (ne ce:Nat) (Ak:Option Addr) (nk ck:Nat) (rest:List UInt8) (m:Nat) (A:Option Addr) (c:Nat) (b:Bool),e = .returned (.tuple #[.agg #[.slice Ae ne ce,.slice Ak nk ck],.agg #[.slice A m c,.bool b]])∧RdO w' (fun b=>w.heap.size≤b) t ⟨Ae,ne,ce⟩ ⟨Ak,nk,ck⟩∧rest.length=m∧Rd w' B 1 A m c (u8s rest)∧ToTreeS bs t rest b∧Below w.heap.size w w'
set_option maxRecDepth 100000 in
set_option maxHeartbeats 4000000 in
theorem totree_any (bs:List UInt8) (n:Nat) (A:Option Addr) (c:Nat) (bad:Bool) (w:World) {B:Nat} (hl:bs.length=n) (hn:n≤20000) (hB:B≤w.heap.size) (hr:Rd w B 1 A n c (u8s bs)) (hb:bad=true→bs=[]) :
  Calls Tryz.prog 50 #[.agg #[.slice A n c,.bool bad]] w (ToTreeP w B bs):=by
 obtain⟨g,hg⟩:∃ g,g=w.heap.size:=⟨_,rfl⟩;obtain⟨W,hW⟩:∃ W,W=((w.alloc (.cells #[.slice A n c,.bool bad] 51)).alloc (.cells #[.slice none 0 0,.slice none 0 0] 35)).alloc (.cells #[.slice none 0 0,.bool false] 51):=⟨_,rfl⟩
 have hbW:Below w.heap.size w W:=by
  rw[hW];exact (((Below.refl _ _).alloc (Nat.le_refl _) _).alloc (by simp) _).alloc (by simp;omega) _
 have hgw:w.heap.size≤g:=by omega
 have hBg:B≤g:=by omega
 have n01:¬g=g+1:=by omega
 have n02:¬g=g+2:=by omega
 have n10:¬g+1=g:=by omega
 have n12:¬g+1=g+2:=by omega
 have n20:¬g+2=g:=by omega
 have n21:¬g+2=g+1:=by omega
 have HK0:Hid (Kept [(⟨g,0,none⟩,.slice A n c),(⟨g,1,none⟩,.bool bad),(⟨g+1,0,none⟩,.slice none 0 0),(⟨g+1,1,none⟩,.slice none 0 0),(⟨g+2,0,none⟩,.slice none 0 0),(⟨g+2,1,none⟩,.bool false)] w W):=by
  have h1:=Kept.nil_of hbW
  refine ((((((h1.cons_of ?_).cons_of ?_).cons_of ?_).cons_of ?_).cons_of ?_).cons_of ?_) <;> (rw[hW,hg];go_simp)
 have HF0:Hid (Free g W∧Free (g+1) W∧Free (g+2) W):=by
  refine⟨?_,?_,?_⟩ <;> (rw[hW,hg];exact⟨by simp <;> omega,fun j=>by go_simp⟩)
 have hB1:B≤W.heap.size:=Nat.le_trans hB hbW.size;have HC:=Lib.hid (tree_any16 5 bs n A c bad W B (by omega) hl hn hB1 (hr.below (hbW.mono hB)) hb);have HL:=Lib.hid hl;have HBB:=Lib.hid hB;have HW:=Lib.hid hW;have HG:=Lib.hid hg
 have hgW:W.heap.size=g+3:=by rw[hW,hg];simp
 have HGW:=Lib.hid hgW;have k0:=HK0.out.c0;have k1:=HK0.out.c1;clear hl hr hb hbW hW hg hB hB1 hgW;go_enter Tryz.func50,Tryz.ntmps50;go_wp2_with fail;rw[← HG.out,← HW.out];refine HC.out.mono ?_;rintro e w2 ⟨t,Ae,ne,ce,Ak,nk,ck,rest,m,A2,c2,b,rfl,hro,hm,hrd,hts,hb2⟩;have HK2:=Lib.hid (HK0.out.later hb2);have HF20:=Lib.hid (HF0.out.1.later hb2);have HF21:=Lib.hid (HF0.out.2.1.later hb2);have HF22:=Lib.hid (HF0.out.2.2.later hb2);clear k0 k1;obtain⟨k0,k1,k2,k3,k4,k5,-⟩:=HK2.out.cj;have f0:=HF20.out.2 0;have f1:=HF20.out.2 1;have hglt:g<w2.heap.size:=HF20.out.1;have hglt1:g+1<w2.heap.size:=HF21.out.1;have hglt2:g+2<w2.heap.size:=HF22.out.1;obtain⟨q,hq⟩:∃ q,q=w2.heap.size:=⟨_,rfl⟩
 have hgq:g+3≤q:=by omega
 obtain⟨wz,hwz⟩:∃ W,W=((w2.setCell ⟨g,0,none⟩ (.slice A2 m c2)).setCell ⟨g,1,none⟩ (.bool b)).alloc (.cells #[.slice Ae ne ce,.slice Ak nk ck] 35):=⟨_,rfl⟩
 have hbz:Below g w2 wz:=by
  rw[hwz];exact (((Below.refl g w2).setCell (p:=⟨g,0,none⟩) (Nat.le_refl _) _).setCell (p:=⟨g,1,none⟩) (Nat.le_refl _) _).alloc (by simp[World.setCell];omega) _
 have HKz:Hid (Kept [(⟨g,0,none⟩,.slice A2 m c2),(⟨g,1,none⟩,.bool b),(⟨g+1,0,none⟩,.slice none 0 0),(⟨g+1,1,none⟩,.slice none 0 0),(⟨g+2,0,none⟩,.slice none 0 0),(⟨g+2,1,none⟩,.bool false)] w wz):=by
  have h1:=Kept.nil_of (HK2.out.below.trans (hbz.mono hgw))
  refine ((((((h1.cons_of ?_).cons_of ?_).cons_of ?_).cons_of ?_).cons_of ?_).cons_of ?_) <;> (rw[hwz];go_simp)
 have HFz1:Hid (Free (g+1) wz):=by unfold Hid;rw[hwz];exact ((HF21.out.set _ _).set _ _).alloc _
 have HFz2:Hid (Free (g+2) wz):=by unfold Hid;rw[hwz];exact ((HF22.out.set _ _).set _ _).alloc _
 have HRDz:Hid (Rd wz B 1 A2 m c2 (u8s rest)):=hrd.below (hbz.mono hBg)
 have HTz:Hid (RdO wz (fun z=>g+3≤z) t ⟨Ae,ne,ce⟩ ⟨Ak,nk,ck⟩):=by
  have h1:=RdO.mono (ok':=fun z=>g+3≤z) (fun z hz _=>by have:=HGW.out;omega) _ hro;refine RdO.keep (by rw[hwz];simp[World.setCell]) (fun z hz hlt=>?_) _ h1;rw[hwz];exact (heap_alloc_old _ _ (by simpa [World.setCell] using hlt)).trans ((Below.heap_setCell _ ⟨g,1,none⟩ _ z (by dsimp only;omega)).trans (Below.heap_setCell _ ⟨g,0,none⟩ _ z (by dsimp only;omega)))
 have t0:wz.cell? ⟨q,0,none⟩=some (.slice Ae ne ce):=by rw[hwz,hq];go_simp
 have t1:wz.cell? ⟨q,1,none⟩=some (.slice Ak nk ck):=by rw[hwz,hq];go_simp
 have hszz:wz.heap.size=q+1:=by rw[hwz,hq];simp[World.setCell]
 have HT0:=Lib.hid (And.intro t0 t1);have HSZ:=Lib.hid hszz;have HM:=Lib.hid hm;have HTS:=Lib.hid hts;have HQ:=Lib.hid hq;have HWz:=Lib.hid hwz;clear hro hm hrd hts hb2 hq hwz hbz HC t0 t1 hszz
 cases b with
 | true=>
  have HNO:=Lib.hid HTS.out.not;go_wp2_with fail;rw[← HWz.out];refine (bad_any16 wz).mono ?_;rintro e w4 ⟨rfl,hb4⟩;have HK4:=Lib.hid (HKz.out.later hb4.out);have HF41:=Lib.hid (HFz1.out.later hb4.out);have HF42:=Lib.hid (HFz2.out.later hb4.out);clear k0 k1;have g10:=HF41.out.2 0;have g11:=HF41.out.2 1;have g20:=HF42.out.2 0;have g21:=HF42.out.2 1;obtain⟨k0,k1,k2,k3,k4,k5,-⟩:=HK4.out.cj;obtain⟨W5,hW5⟩:∃ W,W=(((w4.setCell ⟨g+1,0,none⟩ (.slice none 0 0)).setCell ⟨g+1,1,none⟩ (.slice none 0 0)).setCell ⟨g+2,0,none⟩ (.slice none 0 0)).setCell ⟨g+2,1,none⟩ (.bool true):=⟨_,rfl⟩
  have l0:W5.cell? ⟨g+1,0,none⟩=some (.slice none 0 0):=by rw[hW5];go_simp
  have l1:W5.cell? ⟨g+1,1,none⟩=some (.slice none 0 0):=by rw[hW5];go_simp
  have l2:W5.cell? ⟨g+2,0,none⟩=some (.slice none 0 0):=by rw[hW5];go_simp
  have l3:W5.cell? ⟨g+2,1,none⟩=some (.bool true):=by rw[hW5];go_simp
  have hbz:∀ {B0:Nat} {w0:World},B0≤g→Below B0 w0 w4→Below B0 w0 W5:=fun hB h=>by
   rw[hW5];exact ((((h.setCell (p:=⟨g+1,0,none⟩) (by dsimp only;omega) _).setCell (p:=⟨g+1,1,none⟩) (by dsimp only;omega) _).setCell (p:=⟨g+2,0,none⟩) (by dsimp only;omega) _).setCell (p:=⟨g+2,1,none⟩) (by dsimp only;omega) _)
  have hsz5:w4.heap.size≤W5.heap.size:=by rw[hW5];simp[World.setCell]
  have hkp5:∀ z,g+3≤z→z<w4.heap.size→W5.heap[z]?=w4.heap[z]?:=fun z hz _=>by
   rw[hW5];exact (((Below.heap_setCell _ ⟨g+2,1,none⟩ _ z (by dsimp only;omega)).trans (Below.heap_setCell _ ⟨g+2,0,none⟩ _ z (by dsimp only;omega))).trans (Below.heap_setCell _ ⟨g+1,1,none⟩ _ z (by dsimp only;omega))).trans (Below.heap_setCell _ ⟨g+1,0,none⟩ _ z (by dsimp only;omega))
  have HB5:=Lib.hid (hbz hgw HK4.out.below);have HW5:=Lib.hid hW5;clear hb4 hW5 hbz hsz5 hkp5;go_wp2;rw[← HW5.out];exact bodyPost_ret (v:=.tuple #[.agg #[.slice none 0 0,.slice none 0 0],.agg #[.slice none 0 0,.bool true]]) (by simp[results,Tryz.results50,go_sem,l0,l1,l2,l3]) rfl ⟨none_,none,0,0,none,0,0,[],0,none,0,true,rfl,RdO.none _ _ _ _ _ _,rfl,Rd.nil _,.inr ⟨rfl,rfl,rfl,HNO.out⟩,HB5.out⟩
 | false=>
  obtain⟨z,hz⟩:∃ z,rightB 5 t=z:=⟨_,rfl⟩
  have hnt:nodes t≤20000:=by
   have h1:=nodes_le t
   rcases HTS.out with ⟨_,h⟩ | ⟨h,_⟩
   ·have h2:=congrArg List.length h
    have h3:=HL.out;rw[List.length_append]at h2;omega
   ·cases h
  have HC7:=Lib.hid (refrightT_any t Ae Ak ne nk ce ck wz (LenT.few (by omega)) (RdO.rd _ HTz.out));rw[hz]at HC7;have HZZ:=Lib.hid hz;clear hz;go_wp2_with fail;rw[← HWz.out];refine HC7.out.mono ?_;rintro e w7 ⟨rfl,hb7⟩;have HKz0:=HKz.out;have HF10:=HFz1.out;have HF20':=HFz2.out;have HTz0:=HTz.out;have HKz:=Lib.hid (HKz0.later hb7);have HFz1:=Lib.hid (HF10.later hb7);have HFz2:=Lib.hid (HF20'.later hb7);have HR7:Hid (Rd w7 B 1 A2 m c2 (u8s rest)):=HRDz.out.below (hb7.mono (by have:=HSZ.out;omega));have HT7:=Lib.hid (HTz0.later hb7)
  have hqz:q<wz.heap.size:=by have:=HSZ.out;omega
  have u0:w7.cell? ⟨q,0,none⟩=some (.slice Ae ne ce):=(hb7.cell (p:=⟨q,0,none⟩) hqz).trans HT0.out.1;have u1:w7.cell? ⟨q,1,none⟩=some (.slice Ak nk ck):=(hb7.cell (p:=⟨q,1,none⟩) hqz).trans HT0.out.2;clear hb7 HKz0 HF10 HF20' HTz0 HC7 hqz k0 k1 k2 k3 k4 k5 f0 f1
  cases z with
  | false=>
   have HNO:Hid (NoT bs 5):=HTS.out.no HZZ.out;have k0:=HKz.out.c0;have k1:=HKz.out.c1;go_wp2_with fail;refine (bad_any16 w7).mono ?_;rintro e w4 ⟨rfl,hb4⟩;have HK4:=Lib.hid (HKz.out.later hb4.out);have HF41:=Lib.hid (HFz1.out.later hb4.out);have HF42:=Lib.hid (HFz2.out.later hb4.out);clear k0 k1;have g10:=HF41.out.2 0;have g11:=HF41.out.2 1;have g20:=HF42.out.2 0;have g21:=HF42.out.2 1;obtain⟨k0,k1,k2,k3,k4,k5,-⟩:=HK4.out.cj;obtain⟨W5,hW5⟩:∃ W,W=(((w4.setCell ⟨g+1,0,none⟩ (.slice none 0 0)).setCell ⟨g+1,1,none⟩ (.slice none 0 0)).setCell ⟨g+2,0,none⟩ (.slice none 0 0)).setCell ⟨g+2,1,none⟩ (.bool true):=⟨_,rfl⟩
   have l0:W5.cell? ⟨g+1,0,none⟩=some (.slice none 0 0):=by rw[hW5];go_simp
   have l1:W5.cell? ⟨g+1,1,none⟩=some (.slice none 0 0):=by rw[hW5];go_simp
   have l2:W5.cell? ⟨g+2,0,none⟩=some (.slice none 0 0):=by rw[hW5];go_simp
   have l3:W5.cell? ⟨g+2,1,none⟩=some (.bool true):=by rw[hW5];go_simp
   have hbz:∀ {B0:Nat} {w0:World},B0≤g→Below B0 w0 w4→Below B0 w0 W5:=fun hB h=>by
    rw[hW5];exact ((((h.setCell (p:=⟨g+1,0,none⟩) (by dsimp only;omega) _).setCell (p:=⟨g+1,1,none⟩) (by dsimp only;omega) _).setCell (p:=⟨g+2,0,none⟩) (by dsimp only;omega) _).setCell (p:=⟨g+2,1,none⟩) (by dsimp only;omega) _)
   have hsz5:w4.heap.size≤W5.heap.size:=by rw[hW5];simp[World.setCell]
   have hkp5:∀ z,g+3≤z→z<w4.heap.size→W5.heap[z]?=w4.heap[z]?:=fun z hz _=>by
    rw[hW5];exact (((Below.heap_setCell _ ⟨g+2,1,none⟩ _ z (by dsimp only;omega)).trans (Below.heap_setCell _ ⟨g+2,0,none⟩ _ z (by dsimp only;omega))).trans (Below.heap_setCell _ ⟨g+1,1,none⟩ _ z (by dsimp only;omega))).trans (Below.heap_setCell _ ⟨g+1,0,none⟩ _ z (by dsimp only;omega))
   have HB5:=Lib.hid (hbz hgw HK4.out.below);have HW5:=Lib.hid hW5;clear hb4 hW5 hbz hsz5 hkp5;go_wp2;rw[← HW5.out];exact bodyPost_ret (v:=.tuple #[.agg #[.slice none 0 0,.slice none 0 0],.agg #[.slice none 0 0,.bool true]]) (by simp[results,Tryz.results50,go_sem,l0,l1,l2,l3]) rfl ⟨none_,none,0,0,none,0,0,[],0,none,0,true,rfl,RdO.none _ _ _ _ _ _,rfl,Rd.nil _,.inr ⟨rfl,rfl,rfl,HNO.out⟩,HB5.out⟩
  | true=>
   have g10:=HFz1.out.2 0;have g11:=HFz1.out.2 1;have g20:=HFz2.out.2 0;have g21:=HFz2.out.2 1;obtain⟨k0,k1,k2,k3,k4,k5,-⟩:=HKz.out.cj
   have hnqg:¬q=g:=by omega
   have hnq1:¬q=g+1:=by omega
   have hnq2:¬q=g+2:=by omega
   obtain⟨W5,hW5⟩:∃ W,W=(((w7.setCell ⟨g+1,0,none⟩ (.slice Ae ne ce)).setCell ⟨g+1,1,none⟩ (.slice Ak nk ck)).setCell ⟨g+2,0,none⟩ (.slice A2 m c2)).setCell ⟨g+2,1,none⟩ (.bool false):=⟨_,rfl⟩
   have l0:W5.drew.cell? ⟨g+1,0,none⟩=some (.slice Ae ne ce):=by rw[hW5];go_simp
   have l1:W5.drew.cell? ⟨g+1,1,none⟩=some (.slice Ak nk ck):=by rw[hW5];go_simp
   have l2:W5.drew.cell? ⟨g+2,0,none⟩=some (.slice A2 m c2):=by rw[hW5];go_simp
   have l3:W5.drew.cell? ⟨g+2,1,none⟩=some (.bool false):=by rw[hW5];go_simp
   have hbz:∀ {B0:Nat} {w0:World},B0≤g→Below B0 w0 w7→Below B0 w0 W5.drew:=fun hB h=>by
    rw[hW5];exact ((((h.setCell (p:=⟨g+1,0,none⟩) (by dsimp only;omega) _).setCell (p:=⟨g+1,1,none⟩) (by dsimp only;omega) _).setCell (p:=⟨g+2,0,none⟩) (by dsimp only;omega) _).setCell (p:=⟨g+2,1,none⟩) (by dsimp only;omega) _).drew
   have hsz5:w7.heap.size≤W5.drew.heap.size:=by rw[hW5];simp[World.setCell]
   have hkp5:∀ z,g+3≤z→z<w7.heap.size→W5.drew.heap[z]?=w7.heap[z]?:=fun z hz _=>by
    rw[hW5];exact (((Below.heap_setCell _ ⟨g+2,1,none⟩ _ z (by dsimp only;omega)).trans (Below.heap_setCell _ ⟨g+2,0,none⟩ _ z (by dsimp only;omega))).trans (Below.heap_setCell _ ⟨g+1,1,none⟩ _ z (by dsimp only;omega))).trans (Below.heap_setCell _ ⟨g+1,0,none⟩ _ z (by dsimp only;omega))
   have HB5:=Lib.hid (hbz hgw HKz.out.below);have HRD5:Hid (Rd W5.drew B 1 A2 m c2 (u8s rest)):=HR7.out.below (hbz hBg (Below.refl B _));have HT5:Hid (RdO W5.drew (fun z=>w.heap.size≤z) t ⟨Ae,ne,ce⟩ ⟨Ak,nk,ck⟩):=RdO.mono (fun z hz _=>by omega) _ (RdO.keep (ok:=fun z=>g+3≤z) hsz5 (fun z hz hlt=>hkp5 z hz hlt) _ HT7.out)
   have HOK:Hid (ToTreeS bs t rest false):=by
    rcases HTS.out with ⟨_,h⟩ | ⟨h,_⟩
    ·exact .inl ⟨rfl,h,rightB_iff.1 HZZ.out⟩
    ·cases h
   have HW5:=Lib.hid hW5;clear hW5 hbz hsz5 hkp5;go_wp2_with fail;rw[← HQ.out]
   go_region
   all_goals
    go_wp2;rw[← HW5.out];exact bodyPost_ret (v:=.tuple #[.agg #[.slice Ae ne ce,.slice Ak nk ck],.agg #[.slice A2 m c2,.bool false]]) (by simp[results,Tryz.results50,go_sem,l0,l1,l2,l3]) rfl ⟨t,Ae,ne,ce,Ak,nk,ck,rest,m,A2,c2,false,rfl,HT5.out,HM.out,HRD5.out,HOK.out,HB5.out⟩
end Pk
end Go.Proofs.YtcbpgemiffmieaaGreat
set_option maxRecDepth 100000
set_option maxHeartbeats 4000000
namespace Go.Proofs.YtcbpgemiffmieaaGreat
open Go.ChangeShapes Go.WideShapes Go.ChangeAt Go.RowKit
namespace Pk
open Tr Cx Sp Rw Codec
theorem spB_def (x0 x1 x2:Int):spB (x0,x1,x2)=numB x0++(numB x1++numB x2):=by unfold spB;rw[List.append_assoc]
theorem entB_def (ea en:Int) (s:ByteArray) (ev:Int):entB ⟨ea,en,s,ev⟩=numB ea++(numB en++(txtB s++numB ev)):=by unfold entB;simp only[List.append_assoc]
theorem putsp_any (x0 x1 x2:Int) {w:World} {l:List (Addr×Value)} {B a q:Nat} {g:Option Nat} {bs:List UInt8} {long:Bool} (h0:I64 x0) (h1:I64 x1) (h2:I64 x2) (h:OutC w ((⟨q,0,none⟩,.pointer (some ⟨a,0,none⟩))::l) B a g bs long) :
  Calls Tryz.prog 110 #[.agg #[.int .i64 x0,.int .i64 x1,.int .i64 x2],.pointer (some ⟨q,0,none⟩)] w fun e w'=>e = .returned (.tuple #[])∧Pt B a g bs long w ((⟨q,0,none⟩,.pointer (some ⟨a,0,none⟩))::l) (spB (x0,x1,x2)) w':=by
 have HO:=Lib.hid h;have HP:=Lib.hid (Pt.refl h)

 clear h;obtain⟨p,hp⟩:∃ p,p=w.heap.size:=⟨_,rfl⟩;obtain⟨W,hW⟩:∃ W,W=w.alloc (.cells #[.int .i64 x0,.int .i64 x1,.int .i64 x2] 100):=⟨_,rfl⟩
 have HP1:Hid (Pt B a g bs long w ([(⟨p,0,none⟩,.int .i64 x0),(⟨p,1,none⟩,.int .i64 x1),(⟨p,2,none⟩,.int .i64 x2)]++((⟨q,0,none⟩,.pointer (some ⟨a,0,none⟩))::l)) [] W):=by
  refine HP.out.add (by rw[hW];exact Dt.box_below _ _ _) ?_;intro x hx;simp only[List.mem_cons,List.not_mem_nil,or_false]at hx
  rcases hx with rfl | rfl | rfl <;> exact⟨by dsimp only;omega,by rw[hW];simp <;> omega,by rw[hW,hp];go_simp⟩
 have Hp:=Lib.hid hp;have HW:=Lib.hid hW;clear hp hW;have kq:=HP1.out.c3;rw[HW.out]at kq;clear HP;go_enter Tryz.func110,Tryz.ntmps110;go_wp2_with fail;rw[← HW.out,← Hp.out];clear kq;refine (HP1.out.then (fun _ _ _ h=>pnum_any x0 h0 h)).mono ?_;rintro e w1 ⟨rfl,HP2⟩;have k0:=HP2.out.c0;have k1:=HP2.out.c1;have k2:=HP2.out.c2;have k3:=HP2.out.c3;clear HP1;go_wp2_with fail;refine (HP2.out.then (fun _ _ _ h=>pnum_any x1 h1 h)).mono ?_;rintro e w2 ⟨rfl,HP3⟩;clear k0;clear k1;clear k2;clear k3;have k0:=HP3.out.c0;have k1:=HP3.out.c1;have k2:=HP3.out.c2;have k3:=HP3.out.c3;clear HP2;go_wp2_with fail;refine (HP3.out.then (fun _ _ _ h=>pnum_any x2 h2 h)).mono ?_;rintro e w3 ⟨rfl,HP4⟩;clear k0;clear k1;clear k2;clear k3;have k0:=HP4.out.c0;have k1:=HP4.out.c1;have k2:=HP4.out.c2
 have k3:=HP4.out.c3;clear HP3;go_wp2
 go_end0
 refine⟨rfl,?_⟩;have h9:=HP4.out.sub (l2:=(⟨q,0,none⟩,.pointer (some ⟨a,0,none⟩))::l) (fun x hx=>List.mem_append_right _ hx)
 simpa only [List.nil_append,List.append_assoc,spB_def] using h9
theorem puten_any (ea en:Int) (s:ByteArray) (ev:Int) {w:World} {l:List (Addr×Value)} {B a q:Nat} {g:Option Nat} {bs:List UInt8} {long:Bool} (h0:I64 ea) (h1:I64 en) (h2:s.size≤maxLen) (h3:I64 ev) (h:OutC w ((⟨q,0,none⟩,.pointer (some ⟨a,0,none⟩))::l) B a g bs long) :
  Calls Tryz.prog 113 #[.agg #[.int .i64 ea,.int .i64 en,.string s,.int .i64 ev],.pointer (some ⟨q,0,none⟩)] w fun e w'=>e = .returned (.tuple #[])∧Pt B a g bs long w ((⟨q,0,none⟩,.pointer (some ⟨a,0,none⟩))::l) (entB ⟨ea,en,s,ev⟩) w':=by
 have HO:=Lib.hid h;have HP:=Lib.hid (Pt.refl h)

 clear h;obtain⟨p,hp⟩:∃ p,p=w.heap.size:=⟨_,rfl⟩;obtain⟨W,hW⟩:∃ W,W=w.alloc (.cells #[.int .i64 ea,.int .i64 en,.string s,.int .i64 ev] 116):=⟨_,rfl⟩
 have HP1:Hid (Pt B a g bs long w ([(⟨p,0,none⟩,.int .i64 ea),(⟨p,1,none⟩,.int .i64 en),(⟨p,2,none⟩,.string s),(⟨p,3,none⟩,.int .i64 ev)]++((⟨q,0,none⟩,.pointer (some ⟨a,0,none⟩))::l)) [] W):=by
  refine HP.out.add (by rw[hW];exact Dt.box_below _ _ _) ?_;intro x hx;simp only[List.mem_cons,List.not_mem_nil,or_false]at hx
  rcases hx with rfl | rfl | rfl | rfl <;> exact⟨by dsimp only;omega,by rw[hW];simp <;> omega,by rw[hW,hp];go_simp⟩
 have Hp:=Lib.hid hp;have HW:=Lib.hid hW;clear hp hW;have kq:=HP1.out.c4;rw[HW.out]at kq;clear HP;go_enter Tryz.func113,Tryz.ntmps113;go_wp2_with fail;rw[← HW.out,← Hp.out];clear kq;refine (HP1.out.then (fun _ _ _ h=>pnum_any ea h0 h)).mono ?_;rintro e w1 ⟨rfl,HP2⟩;have k0:=HP2.out.c0;have k1:=HP2.out.c1;have k2:=HP2.out.c2;have k3:=HP2.out.c3;have k4:=HP2.out.c4;clear HP1;go_wp2_with fail;refine (HP2.out.then (fun _ _ _ h=>pnum_any en h1 h)).mono ?_;rintro e w2 ⟨rfl,HP3⟩;clear k0;clear k1;clear k2;clear k3;clear k4;have k0:=HP3.out.c0;have k1:=HP3.out.c1;have k2:=HP3.out.c2;have k3:=HP3.out.c3;have k4:=HP3.out.c4;clear HP2;go_wp2_with fail;refine (HP3.out.then (fun _ _ _ h=>ptext_any s h2 h)).mono ?_;rintro e w3 ⟨rfl,HP4⟩;clear k0;clear k1;clear k2;clear k3;clear k4
 have k0:=HP4.out.c0;have k1:=HP4.out.c1;have k2:=HP4.out.c2;have k3:=HP4.out.c3;have k4:=HP4.out.c4;clear HP3;go_wp2_with fail;refine (HP4.out.then (fun _ _ _ h=>pnum_any ev h3 h)).mono ?_;rintro e w4 ⟨rfl,HP5⟩;clear k0;clear k1;clear k2;clear k3;clear k4;have k0:=HP5.out.c0;have k1:=HP5.out.c1;have k2:=HP5.out.c2;have k3:=HP5.out.c3;have k4:=HP5.out.c4;clear HP4;go_wp2
 go_end0
 refine⟨rfl,?_⟩;have h9:=HP5.out.sub (l2:=(⟨q,0,none⟩,.pointer (some ⟨a,0,none⟩))::l) (fun x hx=>List.mem_append_right _ hx)
 simpa only [List.nil_append,List.append_assoc,entB_def] using h9
theorem putAllSp_any (xs:List S3) (n c:Nat) (A:Option Addr) {w:World} {l:List (Addr×Value)} {B a:Nat} {q:Nat} {g:Option Nat} {bs:List UInt8} {long:Bool} (hl:xs.length=n) (hn:n≤100000) (hx:∀ s∈xs,SpI s) (hr:Rd w B 3 A n c (spsC xs)) (h:OutC w ((⟨q,0,none⟩,.pointer (some ⟨a,0,none⟩))::l) B a g bs long) :
  Calls Tryz.prog 109 #[.pointer (some ⟨a,0,none⟩),.slice A n c,.func (.func 110) #[] #[.pointer (some ⟨q,0,none⟩)]] w fun e w'=>e = .returned (.tuple #[])∧Pt B a g bs long w ((⟨q,0,none⟩,.pointer (some ⟨a,0,none⟩))::l) (listB spB xs) w':=by
 have HO:=Lib.hid h;have HP:=Lib.hid (Pt.refl h);have HL:=Lib.hid hl;have HR:=Lib.hid hr;have HX:=Lib.hid hx;have hn64:I64 (n:Int):=⟨by omega,by omega⟩;clear h hl hr hx;go_enter Tryz.func109,Tryz.ntmps109;go_wp2_with fail;refine (HP.out.then (fun _ _ _ h=>pnum_any (n:Int) hn64 h)).mono ?_;rintro e w1 ⟨rfl,HP1⟩;rw[List.nil_append]at HP1;clear HP;go_wp2_with fail
 go_loopw [14] (fun i wr=>∃ (k:Nat),i = .int .i64 k∧k≤n∧Hid (Pt B a g bs long w ((⟨q,0,none⟩,.pointer (some ⟨a,0,none⟩))::l) (numB n++(xs.take k).flatMap spB) wr)) (fun i _=>n-(intOf i).toNat)
 case atStart=>exact⟨0,rfl,Nat.zero_le _,by simpa using HP1⟩
 case round=>
  obtain⟨k,rfl,hk,HP⟩:=hrel
  by_cases hlt:k<n
  ·have hkl:k<xs.length:=by rw[HL.out];exact hlt
   have hbw:=HP.out.below HO.out;obtain⟨b,o,rfl,hb,hc⟩:=rd_span (l:=xs) HR.out (by omega);obtain⟨c0,c1,c2⟩:=hc k hkl;have c0:=(hbw.cell (p:=⟨b,o+k*3,none⟩) hb).trans c0;have c1:=(hbw.cell (p:=⟨b,o+k*3+1,none⟩) hb).trans c1;have c2:=(hbw.cell (p:=⟨b,o+k*3+2,none⟩) hb).trans c2;clear hc;have hsuc:=flat_take spB hkl;obtain⟨x,hxe⟩:∃ x,x=xs[k]:=⟨_,rfl⟩;have HE:=HX.out x (hxe▸List.getElem_mem hkl);have HMEM:Hid (x=xs[k]):=hxe;rw[← hxe]at hsuc;rw[← hxe]at c0 c1 c2
   have HSUC:Hid (numB n++(xs.take (k+1)).flatMap spB=numB n++(xs.take k).flatMap spB++spB x):=by
    unfold Hid;rw[hsuc];simp only[List.append_assoc]
   obtain⟨x0,x1,x2⟩:=x;dsimp only at c0 c1 c2;have HE:=Lib.hid HE;have HBS:Hid (B≤wr.heap.size):=Nat.le_trans HO.out.bw hbw.size;clear hsuc hxe hbw HMEM;obtain⟨p,hp⟩:∃ p,p=wr.heap.size:=⟨_,rfl⟩;obtain⟨W,hW⟩:∃ W,W=wr.alloc (.cells #[.int .i64 x0,.int .i64 x1,.int .i64 x2] 100):=⟨_,rfl⟩;have HPW:=Lib.hid (HP.out.later (w':=W) (by rw[hW];exact Dt.box_below _ _ _))
   have HWB:Hid (Below wr.heap.size wr W):=by unfold Hid;rw[hW];exact Dt.box_below _ _ _
   have HW:=Lib.hid hW;have Hp:=Lib.hid hp;clear hW hp;go_wp2_with fail
   try rw[← HW.out]
   refine (HPW.out.then (fun g' _ _ h=>putsp_any x0 x1 x2 HE.out.1 HE.out.2.1 HE.out.2.2 h)).mono ?_;rintro e w2 ⟨rfl,HP2⟩;rw[← HSUC.out]at HP2;go_wp2_with fail;go_roundw
   case rel=>exact⟨k+1,by go_num,by omega,HP2⟩
   case measure=>simp[intOf];omega
  ·have hke:k=n:=by omega
   have HF:Hid (Pt B a g bs long w ((⟨q,0,none⟩,.pointer (some ⟨a,0,none⟩))::l) (listB spB xs) wr):=by
    have h1:=HP.out;rw[hke,← HL.out,List.take_length]at h1;exact h1
   clear HP;go_wp2
   go_end0
   exact⟨rfl,HF.out⟩
def EnI (e:E):Prop:=I64 e.a∧I64 e.n∧e.s.size≤maxLen∧I64 e.v
theorem putAllEn_any (xs:List E) (n c:Nat) (A:Option Addr) {w:World} {l:List (Addr×Value)} {B a:Nat} {q:Nat} {g:Option Nat} {bs:List UInt8} {long:Bool} (hl:xs.length=n) (hn:n≤100000) (hx:∀ s∈xs,EnI s) (hr:Rd w B 4 A n c (entsC xs)) (h:OutC w ((⟨q,0,none⟩,.pointer (some ⟨a,0,none⟩))::l) B a g bs long) :
  Calls Tryz.prog 112 #[.pointer (some ⟨a,0,none⟩),.slice A n c,.func (.func 113) #[] #[.pointer (some ⟨q,0,none⟩)]] w fun e w'=>e = .returned (.tuple #[])∧Pt B a g bs long w ((⟨q,0,none⟩,.pointer (some ⟨a,0,none⟩))::l) (listB entB xs) w':=by
 have HO:=Lib.hid h;have HP:=Lib.hid (Pt.refl h);have HL:=Lib.hid hl;have HR:=Lib.hid hr;have HX:=Lib.hid hx;have hn64:I64 (n:Int):=⟨by omega,by omega⟩;clear h hl hr hx;go_enter Tryz.func112,Tryz.ntmps112;go_wp2_with fail;refine (HP.out.then (fun _ _ _ h=>pnum_any (n:Int) hn64 h)).mono ?_;rintro e w1 ⟨rfl,HP1⟩;rw[List.nil_append]at HP1;clear HP;go_wp2_with fail
 go_loopw [14] (fun i wr=>∃ (k:Nat),i = .int .i64 k∧k≤n∧Hid (Pt B a g bs long w ((⟨q,0,none⟩,.pointer (some ⟨a,0,none⟩))::l) (numB n++(xs.take k).flatMap entB) wr)) (fun i _=>n-(intOf i).toNat)
 case atStart=>exact⟨0,rfl,Nat.zero_le _,by simpa using HP1⟩
 case round=>
  obtain⟨k,rfl,hk,HP⟩:=hrel
  by_cases hlt:k<n
  ·have hkl:k<xs.length:=by rw[HL.out];exact hlt
   have hbw:=HP.out.below HO.out;obtain⟨b,o,rfl,hb,hc⟩:=rd_elem entC_len (l:=xs) HR.out (by omega);have c0:=hc k hkl 0 _ rfl;have c1:=hc k hkl 1 _ rfl;have c2:=hc k hkl 2 _ rfl;have c3:=hc k hkl 3 _ rfl;have c0:=(hbw.cell (p:=⟨b,o+k*4,none⟩) hb).trans c0;have c1:=(hbw.cell (p:=⟨b,o+k*4+1,none⟩) hb).trans c1;have c2:=(hbw.cell (p:=⟨b,o+k*4+2,none⟩) hb).trans c2;have c3:=(hbw.cell (p:=⟨b,o+k*4+3,none⟩) hb).trans c3;clear hc;have hsuc:=flat_take entB hkl;obtain⟨x,hxe⟩:∃ x,x=xs[k]:=⟨_,rfl⟩;have HE:=HX.out x (hxe▸List.getElem_mem hkl);have HMEM:Hid (x=xs[k]):=hxe;rw[← hxe]at hsuc;rw[← hxe]at c0 c1 c2 c3
   have HSUC:Hid (numB n++(xs.take (k+1)).flatMap entB=numB n++(xs.take k).flatMap entB++entB x):=by
    unfold Hid;rw[hsuc];simp only[List.append_assoc]
   obtain⟨ea,en,s,ev⟩:=x;dsimp only at c0 c1 c2 c3;have HE:=Lib.hid HE;have HBS:Hid (B≤wr.heap.size):=Nat.le_trans HO.out.bw hbw.size;clear hsuc hxe hbw HMEM;obtain⟨p,hp⟩:∃ p,p=wr.heap.size:=⟨_,rfl⟩;obtain⟨W,hW⟩:∃ W,W=wr.alloc (.cells #[.int .i64 ea,.int .i64 en,.string s,.int .i64 ev] 116):=⟨_,rfl⟩;have HPW:=Lib.hid (HP.out.later (w':=W) (by rw[hW];exact Dt.box_below _ _ _))
   have HWB:Hid (Below wr.heap.size wr W):=by unfold Hid;rw[hW];exact Dt.box_below _ _ _
   have HW:=Lib.hid hW;have Hp:=Lib.hid hp;clear hW hp;go_wp2_with fail
   try rw[← HW.out]
   refine (HPW.out.then (fun g' _ _ h=>puten_any ea en s ev HE.out.1 HE.out.2.1 HE.out.2.2.1 HE.out.2.2.2 h)).mono ?_;rintro e w2 ⟨rfl,HP2⟩;rw[← HSUC.out]at HP2;go_wp2_with fail;go_roundw
   case rel=>exact⟨k+1,by go_num,by omega,HP2⟩
   case measure=>simp[intOf];omega
  ·have hke:k=n:=by omega
   have HF:Hid (Pt B a g bs long w ((⟨q,0,none⟩,.pointer (some ⟨a,0,none⟩))::l) (listB entB xs) wr):=by
    have h1:=HP.out;rw[hke,← HL.out,List.take_length]at h1;exact h1
   clear HP;go_wp2
   go_end0
   exact⟨rfl,HF.out⟩
theorem putAllSt_any (xs:List ByteArray) (n c:Nat) (A:Option Addr) {w:World} {l:List (Addr×Value)} {B a:Nat} {g:Option Nat} {bs:List UInt8} {long:Bool} (hl:xs.length=n) (hn:n≤100000) (hx:∀ s∈xs,s.size≤maxLen) (hr:Rd w B 1 A n c (strs xs)) (h:OutC w l B a g bs long) :
  Calls Tryz.prog 81 #[.pointer (some ⟨a,0,none⟩),.slice A n c,.func (.func 82) #[.pointer (some ⟨a,0,none⟩)] #[]] w fun e w'=>e = .returned (.tuple #[])∧Pt B a g bs long w l (listB txtB xs) w':=by
 have HO:=Lib.hid h;have HP:=Lib.hid (Pt.refl h);have HL:=Lib.hid hl;have HR:=Lib.hid hr;have HX:=Lib.hid hx;have hn64:I64 (n:Int):=⟨by omega,by omega⟩;clear h hl hr hx;go_enter Tryz.func81,Tryz.ntmps81;go_wp2_with fail;refine (HP.out.then (fun _ _ _ h=>pnum_any (n:Int) hn64 h)).mono ?_;rintro e w1 ⟨rfl,HP1⟩;rw[List.nil_append]at HP1;clear HP;go_wp2_with fail
 go_loopw [14] (fun i wr=>∃ (k:Nat),i = .int .i64 k∧k≤n∧Hid (Pt B a g bs long w l (numB n++(xs.take k).flatMap txtB) wr)) (fun i _=>n-(intOf i).toNat)
 case atStart=>exact⟨0,rfl,Nat.zero_le _,by simpa using HP1⟩
 case round=>
  obtain⟨k,rfl,hk,HP⟩:=hrel
  by_cases hlt:k<n
  ·have hkl:k<xs.length:=by rw[HL.out];exact hlt
   have hbw:=HP.out.below HO.out;obtain⟨b,o,rfl,hb,hc⟩:=rd_text (l:=xs) HR.out (by omega);have c0:=hc k hkl;have c0:=(hbw.cell (p:=⟨b,o+k,none⟩) hb).trans c0;clear hc;have hsuc:=flat_take txtB hkl;obtain⟨x,hxe⟩:∃ x,x=xs[k]:=⟨_,rfl⟩;have HE:=HX.out x (hxe▸List.getElem_mem hkl);have HMEM:Hid (x=xs[k]):=hxe;rw[← hxe]at hsuc;rw[← hxe]at c0
   have HSUC:Hid (numB n++(xs.take (k+1)).flatMap txtB=numB n++(xs.take k).flatMap txtB++txtB x):=by
    unfold Hid;rw[hsuc];simp only[List.append_assoc]

   have HE:=Lib.hid HE;have HBS:Hid (B≤wr.heap.size):=Nat.le_trans HO.out.bw hbw.size;clear hsuc hxe hbw HMEM;go_wp2_with fail;refine (HP.out.then (fun _ _ _ h=>ptext_any x HE.out h)).mono ?_;rintro e w2 ⟨rfl,HP2⟩;rw[← HSUC.out]at HP2;go_wp2_with fail;go_roundw
   case rel=>exact⟨k+1,by go_num,by omega,HP2⟩
   case measure=>simp[intOf];omega
  ·have hke:k=n:=by omega
   have HF:Hid (Pt B a g bs long w l (listB txtB xs) wr):=by
    have h1:=HP.out;rw[hke,← HL.out,List.take_length]at h1;exact h1
   clear HP;go_wp2
   go_end0
   exact⟨rfl,HF.out⟩
end Pk
end Go.Proofs.YtcbpgemiffmieaaGreat
set_option maxRecDepth 100000
set_option maxHeartbeats 4000000
namespace Go.Proofs.YtcbpgemiffmieaaGreat
open Go.ChangeShapes Go.WideShapes Go.ChangeAt Go.RowKit
namespace Pk
open Tr Cx Sp Rw Codec
def PutsT (u:T) (se sk:SV):Prop:=∀ (w:World) (l:List (Addr×Value)) (B a:Nat) (g:Option Nat) (bs:List UInt8) (long:Bool),OutC w l B a g bs long→RdT w B u se sk →
  Calls Tryz.prog 79 #[.pointer (some ⟨a,0,none⟩),.agg #[.slice se.A se.n se.c,.slice sk.A sk.n sk.c]] w fun e w'=>e = .returned (.tuple #[])∧Pt B a g bs long w l (treeB u) w'
theorem kidB_def (k:ByteArray) (u:T):kidB (k,u)=txtB k++treeB u:=rfl
theorem putki_any (s:ByteArray) (u:T) (Ae Ak:Option Addr) (ne nk ce ck:Nat) {w:World} {l:List (Addr×Value)} {B a q:Nat} {g:Option Nat} {bs:List UInt8} {long:Bool} (h0:s.size≤maxLen) (hu:PutsT u ⟨Ae,ne,ce⟩ ⟨Ak,nk,ck⟩) (hru:RdT w B u ⟨Ae,ne,ce⟩ ⟨Ak,nk,ck⟩) (h:OutC w ((⟨q,0,none⟩,.pointer (some ⟨a,0,none⟩))::l) B a g bs long) :
  Calls Tryz.prog 115 #[.agg #[.string s,.slice Ae ne ce,.slice Ak nk ck],.pointer (some ⟨q,0,none⟩)] w fun e w'=>e = .returned (.tuple #[])∧Pt B a g bs long w ((⟨q,0,none⟩,.pointer (some ⟨a,0,none⟩))::l) (kidB (s,u)) w':=by
 have HO:=Lib.hid h;have HP:=Lib.hid (Pt.refl h);have HU:=Lib.hid hu;have HRU:=Lib.hid hru;clear hu hru;clear h;obtain⟨p,hp⟩:∃ p,p=w.heap.size:=⟨_,rfl⟩;obtain⟨W,hW⟩:∃ W,W=w.alloc (.cells #[.string s,.slice Ae ne ce,.slice Ak nk ck] 118):=⟨_,rfl⟩
 have HP1:Hid (Pt B a g bs long w ([(⟨p,0,none⟩,.string s),(⟨p,1,none⟩,.slice Ae ne ce),(⟨p,2,none⟩,.slice Ak nk ck)]++((⟨q,0,none⟩,.pointer (some ⟨a,0,none⟩))::l)) [] W):=by
  refine HP.out.add (by rw[hW];exact Dt.box_below _ _ _) ?_;intro x hx;simp only[List.mem_cons,List.not_mem_nil,or_false]at hx
  rcases hx with rfl | rfl | rfl <;> exact⟨by dsimp only;omega,by rw[hW];simp <;> omega,by rw[hW,hp];go_simp⟩
 have Hp:=Lib.hid hp;have HW:=Lib.hid hW;clear hp hW;have kq:=HP1.out.c3;rw[HW.out]at kq;clear HP;go_enter Tryz.func115,Tryz.ntmps115;go_wp2_with fail;rw[← HW.out,← Hp.out];clear kq;refine (HP1.out.then (fun _ _ _ h=>ptext_any s h0 h)).mono ?_;rintro e w1 ⟨rfl,HP2⟩;have k0:=HP2.out.c0;have k1:=HP2.out.c1;have k2:=HP2.out.c2;have k3:=HP2.out.c3;clear HP1;go_wp2_with fail;have HB2:=Lib.hid (HP2.out.below HO.out);refine (HP2.out.then (fun _ _ _ h=>HU.out _ _ _ _ _ _ _ h (RdT.below HRU.out HB2.out))).mono ?_;rintro e w2 ⟨rfl,HP3⟩;clear k0;clear k1;clear k2;clear k3;have k0:=HP3.out.c0;have k1:=HP3.out.c1;have k2:=HP3.out.c2;have k3:=HP3.out.c3;clear HP2;go_wp2
 go_end0
 refine⟨rfl,?_⟩;have h9:=HP3.out.sub (l2:=(⟨q,0,none⟩,.pointer (some ⟨a,0,none⟩))::l) (fun x hx=>List.mem_append_right _ hx)
 simpa only [List.nil_append,List.append_assoc,kidB_def] using h9
theorem putAllKi_any (xs:List (ByteArray×T)) (n c:Nat) (A:Option Addr) {w:World} {l:List (Addr×Value)} {B a:Nat} {q:Nat} {g:Option Nat} {bs:List UInt8} {long:Bool} (hl:xs.length=n) (hn:n≤100000) (hx:∀ x∈xs,x.1.size≤maxLen∧∀ se sk,PutsT x.2 se sk) {es:List E} {se0:SV} (hr:RdT w B (.mk es xs) se0 ⟨A,n,c⟩) (h:OutC w ((⟨q,0,none⟩,.pointer (some ⟨a,0,none⟩))::l) B a g bs long) :
  Calls Tryz.prog 114 #[.pointer (some ⟨a,0,none⟩),.slice A n c,.func (.func 115) #[] #[.pointer (some ⟨q,0,none⟩)]] w fun e w'=>e = .returned (.tuple #[])∧Pt B a g bs long w ((⟨q,0,none⟩,.pointer (some ⟨a,0,none⟩))::l) (listB kidB xs) w':=by
 have HO:=Lib.hid h;have HP:=Lib.hid (Pt.refl h);have HL:=Lib.hid hl;have HR:=Lib.hid hr;have HX:=Lib.hid hx;have hn64:I64 (n:Int):=⟨by omega,by omega⟩;clear h hl hr hx;go_enter Tryz.func114,Tryz.ntmps114;go_wp2_with fail;refine (HP.out.then (fun _ _ _ h=>pnum_any (n:Int) hn64 h)).mono ?_;rintro e w1 ⟨rfl,HP1⟩;rw[List.nil_append]at HP1;clear HP;go_wp2_with fail
 go_loopw [14] (fun i wr=>∃ (k:Nat),i = .int .i64 k∧k≤n∧Hid (Pt B a g bs long w ((⟨q,0,none⟩,.pointer (some ⟨a,0,none⟩))::l) (numB n++(xs.take k).flatMap kidB) wr)) (fun i _=>n-(intOf i).toNat)
 case atStart=>exact⟨0,rfl,Nat.zero_le _,by simpa using HP1⟩
 case round=>
  obtain⟨k,rfl,hk,HP⟩:=hrel
  by_cases hlt:k<n
  ·have hkl:k<xs.length:=by rw[HL.out];exact hlt
   have hbw:=HP.out.below HO.out;obtain⟨b,o,rfl,hb,hc⟩:=rd_kid HR.out (by omega);obtain⟨⟨Ae,ne,ce⟩,⟨Ak,nk,ck⟩,c0,c1,c2,hkid⟩:=hc k hkl;dsimp only at c0 c1 c2;have c0:=(hbw.cell (p:=⟨b,o+k*3,none⟩) hb).trans c0;have c1:=(hbw.cell (p:=⟨b,o+k*3+1,none⟩) hb).trans c1;have c2:=(hbw.cell (p:=⟨b,o+k*3+2,none⟩) hb).trans c2;clear hc;have hsuc:=flat_take kidB hkl;obtain⟨x,hxe⟩:∃ x,x=xs[k]:=⟨_,rfl⟩;have HE:=HX.out x (hxe▸List.getElem_mem hkl);have HMEM:Hid (x=xs[k]):=hxe;rw[← hxe]at hsuc;rw[← hxe]at c0 hkid
   have HSUC:Hid (numB n++(xs.take (k+1)).flatMap kidB=numB n++(xs.take k).flatMap kidB++kidB x):=by
    unfold Hid;rw[hsuc];simp only[List.append_assoc]

   have HE:=Lib.hid HE;have HBS:Hid (B≤wr.heap.size):=Nat.le_trans HO.out.bw hbw.size;obtain⟨s,u⟩:=x;dsimp only at c0 c1 c2 hkid HE;have HRK:=Lib.hid (RdT.below hkid hbw);clear hsuc hxe hbw HMEM hkid;obtain⟨p,hp⟩:∃ p,p=wr.heap.size:=⟨_,rfl⟩;obtain⟨W,hW⟩:∃ W,W=wr.alloc (.cells #[.string s,.slice Ae ne ce,.slice Ak nk ck] 118):=⟨_,rfl⟩;have HPW:=Lib.hid (HP.out.later (w':=W) (by rw[hW];exact Dt.box_below _ _ _))
   have HWB:Hid (Below wr.heap.size wr W):=by unfold Hid;rw[hW];exact Dt.box_below _ _ _
   have HW:=Lib.hid hW;have Hp:=Lib.hid hp;clear hW hp;go_wp2_with fail
   try rw[← HW.out]
   refine (HPW.out.then (fun g' _ _ h=>putki_any s u Ae Ak ne nk ce ck HE.out.1 (HE.out.2 _ _) (RdT.below HRK.out (HWB.out.mono HBS.out)) h)).mono ?_;rintro e w2 ⟨rfl,HP2⟩;rw[← HSUC.out]at HP2;go_wp2_with fail;go_roundw
   case rel=>exact⟨k+1,by go_num,by omega,HP2⟩
   case measure=>simp[intOf];omega
  ·have hke:k=n:=by omega
   have HF:Hid (Pt B a g bs long w ((⟨q,0,none⟩,.pointer (some ⟨a,0,none⟩))::l) (listB kidB xs) wr):=by
    have h1:=HP.out;rw[hke,← HL.out,List.take_length]at h1;exact h1
   clear HP;go_wp2
   go_end0
   exact⟨rfl,HF.out⟩
end Pk
end Go.Proofs.YtcbpgemiffmieaaGreat
set_option maxRecDepth 100000
set_option maxHeartbeats 4000000
namespace Go.Proofs.YtcbpgemiffmieaaGreat
open Go.ChangeShapes Go.WideShapes Go.ChangeAt Go.RowKit
namespace Pk
open Tr Cx Sp Rw Codec
theorem right_en {d:Nat} {es:List E} {ks:List (ByteArray×T)} (h:RightT d (.mk es ks)):∀ e∈es,EnI e:=by
 intro e he
 cases d with
 | zero=>exact h.elim
 | succ d=>
  obtain⟨h1,h2,h3,h4⟩:=h.1 e he;unfold Dt.rightB at h1
  simp at h1
  unfold EnI maxLen;exact⟨⟨by omega,by omega⟩,⟨by omega,by omega⟩,by omega,⟨by omega,by omega⟩⟩
theorem pctx_any (xs:List S3) (n c:Nat) (A:Option Addr) {w:World} {l:List (Addr×Value)} {B a:Nat} {g:Option Nat} {bs:List UInt8} {long:Bool} (hl:xs.length=n) (hn:n≤100000) (hx:∀ s∈xs,SpI s) (hr:Rd w B 3 A n c (spsC xs)) (h:OutC w l B a g bs long) :
  Calls Tryz.prog 77 #[.pointer (some ⟨a,0,none⟩),.slice A n c] w fun e w'=>e = .returned (.tuple #[])∧Pt B a g bs long w l (ctxB xs) w':=by
 have HO:=Lib.hid h;have HP:=Lib.hid (Pt.refl h);have HL:=Lib.hid hl;have HX:=Lib.hid hx;have HR:=Lib.hid hr;clear hl hx hr;clear h;obtain⟨q,hq⟩:∃ p,p=w.heap.size:=⟨_,rfl⟩;obtain⟨W,hW⟩:∃ W,W=(w.alloc (.cells #[.pointer (some ⟨a,0,none⟩)] 29)):=⟨_,rfl⟩
 have hbW:Below w.heap.size w W:=by rw[hW];exact (Below.refl _ _).alloc (Nat.le_refl _) _
 have hszW:W.heap.size=w.heap.size+1:=by rw[hW];simp
 have HP1:Hid (Pt B a g bs long w ([(⟨q,0,none⟩,.pointer (some ⟨a,0,none⟩))]++l) [] W):=by
  refine HP.out.add hbW ?_;intro x hx;simp only[List.mem_cons,List.not_mem_nil,or_false]at hx
  rcases hx with rfl <;> exact⟨by dsimp only;omega,by dsimp only;omega,by rw[hW];(try rw[hq]);go_simp⟩
 have HBW:=Lib.hid hbW;have HW:=Lib.hid hW;have Hq:=Lib.hid hq;clear hW hbW hszW HP hq;go_enter Tryz.func77,Tryz.ntmps77;go_wp2_with fail;rw[← HW.out]
 try rw[← Hq.out]
 refine (HP1.out.then (fun _ _ _ h=>putAllSp_any xs n c A HL.out hn HX.out (HR.out.below (HBW.out.mono HO.out.bw)) h)).mono ?_;rintro e w1 ⟨rfl,HP2⟩;have k0:=HP2.out.c0;have HB2:=Lib.hid (HP2.out.below HO.out);clear HP1;go_wp2
 go_end0
 refine⟨rfl,?_⟩;have h9:=HP2.out.sub (l2:=l) (fun x hx=>List.mem_append_right _ hx)
 simpa only [List.nil_append,List.append_assoc,ctxB] using h9
theorem ptree_mk (es:List E) (ks:List (ByteArray×T)) (Ae Ak:Option Addr) (ne nk ce ck:Nat) {w:World} {l:List (Addr×Value)} {B a:Nat} {g:Option Nat} {bs:List UInt8} {long:Bool} (hx:∀ e∈es,EnI e) (hk:∀ k∈ks,k.1.size≤maxLen∧∀ se sk,PutsT k.2 se sk) (hn:nodes (.mk es ks)≤100000) (hr:RdT w B (.mk es ks) ⟨Ae,ne,ce⟩ ⟨Ak,nk,ck⟩) (h:OutC w l B a g bs long) :
  Calls Tryz.prog 79 #[.pointer (some ⟨a,0,none⟩),.agg #[.slice Ae ne ce,.slice Ak nk ck]] w fun e w'=>e = .returned (.tuple #[])∧Pt B a g bs long w l (treeB (.mk es ks)) w':=by
 have HO:=Lib.hid h;have HP:=Lib.hid (Pt.refl h);obtain⟨hle,hlk⟩:=rd_lens hr;have hns:=nodes_es es ks
 have hne:ne≤100000:=by omega
 have hnk:nk≤100000:=by omega
 have HLE:=Lib.hid hle;have HLK:=Lib.hid hlk;have HX:=Lib.hid hx;have HK:=Lib.hid hk;have HR:=Lib.hid hr;clear hle hlk hx hk hr hns hn;clear h;obtain⟨q,hq⟩:∃ p,p=w.heap.size:=⟨_,rfl⟩;obtain⟨p,hp⟩:∃ p,p=q+1:=⟨_,rfl⟩;obtain⟨W,hW⟩:∃ W,W=((w.alloc (.cells #[.pointer (some ⟨a,0,none⟩)] 29)).alloc (.cells #[.slice Ae ne ce,.slice Ak nk ck] 35)):=⟨_,rfl⟩
 have hbW:Below w.heap.size w W:=by rw[hW];exact ((Below.refl _ _).alloc (Nat.le_refl _) _).alloc (by simp) _
 have hszW:W.heap.size=w.heap.size+2:=by rw[hW];simp
 have HP1:Hid (Pt B a g bs long w ([(⟨q,0,none⟩,.pointer (some ⟨a,0,none⟩)),(⟨p,0,none⟩,.slice Ae ne ce),(⟨p,1,none⟩,.slice Ak nk ck)]++l) [] W):=by
  refine HP.out.add hbW ?_;intro x hx;simp only[List.mem_cons,List.not_mem_nil,or_false]at hx
  rcases hx with rfl | rfl | rfl <;> exact⟨by dsimp only;omega,by dsimp only;omega,by rw[hW];(try rw[hp]);(try rw[hq]);go_simp⟩
 have HBW:=Lib.hid hbW;have HW:=Lib.hid hW;have Hq:=Lib.hid hq;have Hp:=Lib.hid hp;clear hW hbW hszW HP hq hp;go_enter Tryz.func79,Tryz.ntmps79;go_wp2_with fail;rw[← HW.out]
 try rw[← Hq.out]
 try rw[← Hp.out]
 refine (HP1.out.then (fun _ _ _ h=>putAllEn_any es ne ce Ae HLE.out hne HX.out (((rdT_mk _ _ _ _ _ _).1 HR.out).2.1.below (HBW.out.mono HO.out.bw)) h)).mono ?_;rintro e w1 ⟨rfl,HP2⟩;have k0:=HP2.out.c0;have k1:=HP2.out.c1;have k2:=HP2.out.c2;have HB2:=Lib.hid (HP2.out.below HO.out);clear HP1;go_wp2_with fail;refine (HP2.out.then (fun _ _ _ h=>putAllKi_any ks nk ck Ak HLK.out hnk HK.out (RdT.below HR.out HB2.out) h)).mono ?_;rintro e w2 ⟨rfl,HP3⟩;clear k0;clear k1;clear k2;have k0:=HP3.out.c0;have k1:=HP3.out.c1;have k2:=HP3.out.c2;have HB3:=Lib.hid (HP3.out.below HO.out);clear HP2;go_wp2
 go_end0
 refine⟨rfl,?_⟩;have h9:=HP3.out.sub (l2:=l) (fun x hx=>List.mem_append_right _ hx)
 simpa only [List.nil_append,List.append_assoc,treeB_mk] using h9
theorem ptree_any:∀ (t:T) (d:Nat),RightT d t→nodes t≤100000→∀ se sk:SV,PutsT t se sk:=by
 intro t
 induction t using T.ind with
 | h es ks ih=>
 intro d hd hn se sk w l B a g bs long h hr;obtain⟨Ae,ne,ce⟩:=se;obtain⟨Ak,nk,ck⟩:=sk;refine ptree_mk es ks Ae Ak ne nk ce ck (right_en hd) (fun k hk=>?_) hn hr h
 cases d with
 | zero=>exact hd.elim
 | succ d=>
  obtain⟨h1,_,h3⟩:=hd.2.2.2 k hk;refine⟨by have:=h1.2;unfold maxLen;omega,fun se sk=>ih k hk d h3 (Nat.le_trans (nodes_kid hk) hn) se sk⟩
theorem pcaus_any (t:T) (xs:List S3) (Ae Ak Ca:Option Addr) (ne nk ce ck n c:Nat) {w:World} {l:List (Addr×Value)} {B a:Nat} {g:Option Nat} {bs:List UInt8} {long:Bool} (ht:RightT 5 t) (hn:nodes t≤100000) (hl:xs.length=n) (hm:n≤100000) (hx:∀ s∈xs,SpI s) (hr:RdT w B t ⟨Ae,ne,ce⟩ ⟨Ak,nk,ck⟩) (hc:Rd w B 3 Ca n c (spsC xs)) (h:OutC w l B a g bs long) :
  Calls Tryz.prog 75 #[.pointer (some ⟨a,0,none⟩),.agg #[.slice Ae ne ce,.slice Ak nk ck,.slice Ca n c]] w fun e w'=>e = .returned (.tuple #[])∧Pt B a g bs long w l (causB (t,xs)) w':=by
 have HO:=Lib.hid h;have HP:=Lib.hid (Pt.refl h);have HT:=Lib.hid ht;have HL:=Lib.hid hl;have HX:=Lib.hid hx;have HR:=Lib.hid hr;have HC:=Lib.hid hc;clear ht hl hx hr hc;clear h;obtain⟨p,hp⟩:∃ p,p=w.heap.size:=⟨_,rfl⟩;obtain⟨W,hW⟩:∃ W,W=(w.alloc (.cells #[.slice Ae ne ce,.slice Ak nk ck,.slice Ca n c] 37)):=⟨_,rfl⟩
 have hbW:Below w.heap.size w W:=by rw[hW];exact (Below.refl _ _).alloc (Nat.le_refl _) _
 have hszW:W.heap.size=w.heap.size+1:=by rw[hW];simp
 have HP1:Hid (Pt B a g bs long w ([(⟨p,0,none⟩,.slice Ae ne ce),(⟨p,1,none⟩,.slice Ak nk ck),(⟨p,2,none⟩,.slice Ca n c)]++l) [] W):=by
  refine HP.out.add hbW ?_;intro x hx;simp only[List.mem_cons,List.not_mem_nil,or_false]at hx
  rcases hx with rfl | rfl | rfl <;> exact⟨by dsimp only;omega,by dsimp only;omega,by rw[hW];(try rw[hp]);go_simp⟩
 have HBW:=Lib.hid hbW;have HW:=Lib.hid hW;have Hp:=Lib.hid hp;clear hW hbW hszW HP hp;go_enter Tryz.func75,Tryz.ntmps75;go_wp2_with fail;rw[← HW.out]
 try rw[← Hp.out]
 refine (HP1.out.then (fun _ _ _ h=>ptree_any t 5 HT.out hn ⟨Ae,ne,ce⟩ ⟨Ak,nk,ck⟩ _ _ _ _ _ _ _ h (RdT.below HR.out (HBW.out.mono HO.out.bw)))).mono ?_;rintro e w1 ⟨rfl,HP2⟩;have k0:=HP2.out.c0;have k1:=HP2.out.c1;have k2:=HP2.out.c2;have HB2:=Lib.hid (HP2.out.below HO.out);clear HP1;go_wp2_with fail;refine (HP2.out.then (fun _ _ _ h=>pctx_any xs n c Ca HL.out hm HX.out (HC.out.below HB2.out) h)).mono ?_;rintro e w2 ⟨rfl,HP3⟩;clear k0;clear k1;clear k2;have k0:=HP3.out.c0;have k1:=HP3.out.c1;have k2:=HP3.out.c2;have HB3:=Lib.hid (HP3.out.below HO.out);clear HP2;go_wp2
 go_end0
 refine⟨rfl,?_⟩;have h9:=HP3.out.sub (l2:=l) (fun x hx=>List.mem_append_right _ hx)
 simpa only [List.nil_append,List.append_assoc,causB] using h9
end Pk
end Go.Proofs.YtcbpgemiffmieaaGreat
set_option maxRecDepth 100000
set_option maxHeartbeats 4000000
namespace Go.Proofs.YtcbpgemiffmieaaGreat
open Go.ChangeShapes Go.WideShapes Go.ChangeAt Go.RowKit
namespace Pk
open Tr Cx Sp Rw Codec
theorem OutAt.two {w w':World} {a p:Nat} {g:Option Nat} {bs:List UInt8} {long:Bool} (h:OutAt w a g bs long) (ht:Two p none w w') (ha:p≠a) (hg:g≠some p):OutAt w' a g bs long:=
 h.keep fun k hk=>by
  rcases hk with rfl | hk
  ·exact ht.block _ h.lt (fun e=>ha e.symm) (by simp)
  ·exact ht.block _ (h.glt hk) (fun e=>hg (by rw[hk,e])) (by simp)
theorem Pt.store {B a:Nat} {g:Option Nat} {bs s:List UInt8} {long:Bool} {w wr w':World} {l l2 l3:List (Addr×Value)} (h:Pt B a g bs long w l s wr) (_hw:OutC w l3 B a g bs long) {p j:Nat} {u:Value} (hp:((⟨p,j,none⟩:Addr),u)∈l) (hB:w.heap.size≤p) (hs:∀ x∈l3,x∈l∧x.1.block≠p) (ht:Two p none wr w') (h2:∀ x∈l2,x.1.block=p∧w'.cell? x.1=some x.2):Pt B a g bs long w (l2++l3) s w':=by
 obtain⟨g',h1,h3,h4⟩:=h;obtain⟨q1,q2,q3,q4⟩:=h1.cells _ hp;dsimp only at q1 q3 q4;refine⟨g',⟨OutAt.two h1.at_ ht (fun e=>q3 e) q4,h1.ba,h1.bg,fun x hx=>?_⟩,⟨ht.os.trans h3.os,ht.tape.trans h3.tape,ht.output.trans h3.output,Nat.le_trans h3.size ht.size,fun k hk ha hg=>(ht.block k (Nat.lt_of_lt_of_le hk h3.size) (by omega) (by simp)).trans (h3.block k hk ha hg)⟩,h4⟩
 rcases List.mem_append.1 hx with hx | hx
 ·obtain⟨e,e2⟩:=h2 x hx
  rw[e];exact⟨Nat.lt_of_lt_of_le q1 ht.size,e2,q3,q4⟩
 ·obtain⟨e,e2⟩:=hs x hx
  obtain⟨r1,r2,r3,r4⟩:=h1.cells _ e;exact⟨Nat.lt_of_lt_of_le r1 ht.size,(ht.cell (p:=x.1) r1 e2 (by simp)).trans r2,r3,r4⟩
theorem putctx_any (xs:List S3) (n c:Nat) (A:Option Addr) (z:Bool) (hz:rightCB xs=z) (u:List S3) (hu:u=if z then xs else []) {w:World} {l:List (Addr×Value)} {B a:Nat} {g:Option Nat} {bs:List UInt8} {long:Bool} (hl:xs.length=n) (hn:n≤100000) (hr:Rd w B 3 A n c (spsC xs)) (h:OutC w l B a g bs long) :
  Calls Tryz.prog 39 #[.pointer (some ⟨a,0,none⟩),.slice A n c] w fun e w'=>e = .returned (.tuple #[])∧Pt B a g bs long w l (ctxB u) w':=by
 have HO:=Lib.hid h;have HP:=Lib.hid (Pt.refl h);have HC:=Lib.hid (rightC_any xs n A c w hl hn (hr.more h.bw) z hz);have HL:=Lib.hid hl;have HR:=Lib.hid hr;have HZ:=Lib.hid hz;have HU:=Lib.hid hu;clear h hl hr hz hu;go_enter Tryz.func39,Tryz.ntmps39;go_wp2_with fail;refine HC.out.mono ?_;rintro e w1 ⟨rfl,hb1⟩;have HP2:=Lib.hid (HP.out.later hb1);have HB2:=Lib.hid (HP2.out.below HO.out);clear hb1 HP
 cases z with
 | true=>
  have hu2:u=xs:=by have h:=HU.out;simpa using h
  subst hu2;have HX:Hid (∀ s∈u,SpI s):=fun s hs=>right_spI (of_rightCB HZ.out) hs;go_wp2_with fail;refine (HP2.out.then (fun _ _ _ h=>pctx_any u n c A HL.out hn HX.out (HR.out.below HB2.out) h)).mono ?_;rintro e w2 ⟨rfl,HP3⟩;go_wp2
  go_end0
  exact⟨rfl,by simpa using HP3.out⟩
 | false=>
  have hu2:u=[]:=by have h:=HU.out;simpa using h
  subst hu2;go_wp2_with fail;refine (HP2.out.then (fun _ _ _ h=>pctx_any [] 0 0 none rfl (by omega) (by simp) (Rd.nil _) h)).mono ?_;rintro e w2 ⟨rfl,HP3⟩;go_wp2
  go_end0
  exact⟨rfl,by simpa using HP3.out⟩
theorem puttree_any (t:T) (Ae Ak:Option Addr) (ne nk ce ck:Nat) (z:Bool) (hz:rightB 5 t=z) (u:T) (hu:u=if z then t else none_) {w:World} {l:List (Addr×Value)} {B a:Nat} {g:Option Nat} {bs:List UInt8} {long:Bool} (hlt:LenT reachBytes t) (hn:nodes t≤100000) (hr:RdT w B t ⟨Ae,ne,ce⟩ ⟨Ak,nk,ck⟩) (h:OutC w l B a g bs long) :
  Calls Tryz.prog 41 #[.pointer (some ⟨a,0,none⟩),.agg #[.slice Ae ne ce,.slice Ak nk ck]] w fun e w'=>e = .returned (.tuple #[])∧Pt B a g bs long w l (treeB u) w':=by
 have HO:=Lib.hid h;have HP:=Lib.hid (Pt.refl h);have HR:=Lib.hid hr;have HZ:=Lib.hid hz;have HU:=Lib.hid hu;have HLT:=Lib.hid hlt;clear hr hz hu hlt;clear h;obtain⟨p,hp⟩:∃ p,p=w.heap.size:=⟨_,rfl⟩;obtain⟨W,hW⟩:∃ W,W=(w.alloc (.cells #[.slice Ae ne ce,.slice Ak nk ck] 35)):=⟨_,rfl⟩
 have hbW:Below w.heap.size w W:=by rw[hW];exact (Below.refl _ _).alloc (Nat.le_refl _) _
 have hszW:W.heap.size=w.heap.size+1:=by rw[hW];simp
 have HP1:Hid (Pt B a g bs long w ([(⟨p,0,none⟩,.slice Ae ne ce),(⟨p,1,none⟩,.slice Ak nk ck)]++l) [] W):=by
  refine HP.out.add hbW ?_;intro x hx;simp only[List.mem_cons,List.not_mem_nil,or_false]at hx
  rcases hx with rfl | rfl <;> exact⟨by dsimp only;omega,by dsimp only;omega,by rw[hW];(try rw[hp]);go_simp⟩
 have HBW:=Lib.hid hbW;have HF:Hid (Free p W):=⟨by rw[hW,hp];simp,fun j=>by rw[hW,hp];go_simp⟩
 have hpw:w.heap.size≤p:=by omega
 have HPW:=Lib.hid hpw;have HW:=Lib.hid hW;have Hp:=Lib.hid hp;clear hpw hW hbW hszW HP hp;go_enter Tryz.func41,Tryz.ntmps41;go_wp2_with fail;rw[← HW.out]
 try rw[← Hp.out]
 have HC:=Lib.hid (rightT_any t Ae Ak ne nk ce ck W HLT.out (RdT.more (Nat.le_trans HO.out.bw HBW.out.size) _ (RdT.below HR.out (HBW.out.mono HO.out.bw))));rw[HZ.out]at HC;refine HC.out.mono ?_;rintro e w1 ⟨rfl,hb1⟩;have HP2:=Lib.hid (HP1.out.later hb1);have HF2:=Lib.hid (HF.out.later hb1);have HB2:=Lib.hid (HP2.out.below HO.out);clear hb1 HP1 HF
 cases z with
 | true=>
  have hu2:u=t:=by have h:=HU.out;simpa using h
  subst hu2;have HT:=Lib.hid (rightB_iff.1 HZ.out);have k0:=HP2.out.c0;have k1:=HP2.out.c1;go_wp2_with fail;refine (HP2.out.then (fun _ _ _ h=>ptree_any u 5 HT.out hn ⟨Ae,ne,ce⟩ ⟨Ak,nk,ck⟩ _ _ _ _ _ _ _ h (RdT.below HR.out HB2.out))).mono ?_;rintro e v1 ⟨rfl,HQ1⟩;clear k0;clear k1;have k0:=HQ1.out.c0;have k1:=HQ1.out.c1;have HBQ1:=Lib.hid (HQ1.out.below HO.out);clear HP2;go_wp2
  go_end0
  refine⟨rfl,?_⟩;have h9:=HQ1.out.sub (l2:=l) (fun x hx=>List.mem_append_right _ hx)
  simpa only [List.nil_append,List.append_assoc] using h9
 | false=>
  have hu2:u=none_:=by have h:=HU.out;simpa using h
  subst hu2;have k0:=HP2.out.c0;have k1:=HP2.out.c1;have f0:=HF2.out.2 0;have f1:=HF2.out.2 1;obtain⟨WS,hWS⟩:∃ W,W=((w1.setCell ⟨p,0,none⟩ (.slice none 0 0)).setCell ⟨p,1,none⟩ (.slice none 0 0)):=⟨_,rfl⟩
  have HPS:Hid (Pt B a g bs long w ([(⟨p,0,none⟩,.slice none 0 0),(⟨p,1,none⟩,.slice none 0 0)]++l) [] WS):=by
   refine HP2.out.store HO.out (p:=p) (j:=0) (List.mem_append_left _ (List.mem_cons_self)) HPW.out (fun x hx=>⟨List.mem_append_right _ hx,fun e=>?_⟩) (by rw[hWS];exact ((Two.refl _ _ _).setCell 0 _).setCell 1 _) ?_
   ·have h1:=(HO.out.cells x hx).1
    have h2:=HPW.out;omega
   ·intro x hx
    simp only[List.mem_cons,List.not_mem_nil,or_false]at hx
    rcases hx with rfl | rfl <;> exact⟨rfl,by rw[hWS];go_simp⟩
  have HBS:=Lib.hid (HPS.out.below HO.out);have HWS:=Lib.hid hWS;clear hWS;go_wp2_with fail
  try rw[← HWS.out]
  refine (HPS.out.then (fun _ _ _ h=>ptree_any none_ 5 RightT.none (by simp[none_,nodes_mk]) ⟨none,0,0⟩ ⟨none,0,0⟩ _ _ _ _ _ _ _ h (RdT.none _ _ _ _))).mono ?_;rintro e v1 ⟨rfl,HQ1⟩;clear k0;clear k1;have k0:=HQ1.out.c0;have k1:=HQ1.out.c1;have HBQ1:=Lib.hid (HQ1.out.below HO.out);clear HPS;go_wp2
  go_end0
  refine⟨rfl,?_⟩;have h9:=HQ1.out.sub (l2:=l) (fun x hx=>List.mem_append_right _ hx)
  simpa only [List.nil_append,List.append_assoc] using h9
end Pk
end Go.Proofs.YtcbpgemiffmieaaGreat
namespace Go.Proofs.YtcbpgemiffmieaaGreat
open Go.ChangeShapes Go.WideShapes Go.ChangeAt Go.RowKit
namespace Pk
open Tr Cx Sp Rw Codec
set_option maxRecDepth 100000 in
set_option maxHeartbeats 4000000 in
theorem treeP_any (t:T) (Ae Ak:Option Addr) (ne nk ce ck:Nat) (w:World) (z:Bool) (hz:rightB 5 t=z) (u:T) (hu:u=if z then t else none_) (hl:LenT reachBytes t) (hn:nodes t≤10000) (hr:RdT w w.heap.size t ⟨Ae,ne,ce⟩ ⟨Ak,nk,ck⟩) :
  Calls Tryz.prog 42 #[.agg #[.slice Ae ne ce,.slice Ak nk ck]] w (NewRow 5 1 (u8s (treeB u)) (treeB u).length w):=by
 have HZ:=Lib.hid hz;have HL:=Lib.hid hl;have HN:=Lib.hid hn;have HR:=Lib.hid hr;have HU:=Lib.hid hu;clear hz hl hn hr hu;obtain⟨g,hg⟩:∃ g,g=w.heap.size:=⟨_,rfl⟩;have HK:=Lib.hid (tree_box w Ae Ak ne nk ce ck);rw[← hg]at HK;obtain⟨W0,hW0⟩:∃ W,W=w.alloc (.cells #[.slice Ae ne ce,.slice Ak nk ck] 35):=⟨_,rfl⟩;rw[← hW0]at HK;have HG:=Lib.hid hg;have HW0:=Lib.hid hW0;have k0:=HK.out.c0;have k1:=HK.out.c1;clear hg hW0;go_enter Tryz.func42,Tryz.ntmps42;go_wp2_with fail;rw[← HW0.out]
 try rw[← HG.out]
 refine (refrightT_any t Ae Ak ne nk ce ck W0 HL.out (RdT.more HK.out.below.size _ (RdT.below HR.out HK.out.below))).mono ?_;rw[HZ.out];rintro e w1 ⟨rfl,hb1⟩;have HK1:=Lib.hid (HK.out.later hb1);have k0:=HK1.out.c0;have k1:=HK1.out.c1;have hb2:=HK1.out.below;clear hb1
 cases z with
 | false=>
  have hu2:u=none_:=by have h:=HU.out;simpa using h
  subst hu2;have HC:=Lib.hid (plain_any none_ 5 none none 0 0 0 0 w1 RightT.none (by simp[none_,nodes_mk]) (RdT.none _ _ _ _));have HB2:=Lib.hid hb2;clear hb2;go_wp2_with fail;refine HC.out.mono ?_;rintro e w2 ⟨A,c,rfl,ho,hb⟩;obtain⟨m,hm⟩:∃ m,m=(treeB none_).length:=⟨_,rfl⟩
  have HA:Hid (Own w2 w.heap.size 5 1 A m c (u8s (treeB none_))):=by rw[hm];exact ho.mono HB2.out.size
  have HB:=Lib.hid (HB2.out.trans (hb.mono HB2.out.size));rw[← hm];have HM:=Lib.hid hm;clear ho hb hm HC;go_wp2;go_ret;rw[← HM.out];exact⟨A,c,rfl,HA.out,HB.out⟩
 | true=>
  have hu2:t=u:=by have h:=HU.out;simp at h;exact h.symm
  subst hu2;have HC:=Lib.hid (plain_any t 5 Ae Ak ne nk ce ck w1 (rightB_iff.1 HZ.out) HN.out (RdT.more hb2.size _ (RdT.below HR.out hb2)));have HB2:=Lib.hid hb2;clear hb2;go_wp2_with fail;refine HC.out.mono ?_;rintro e w2 ⟨A,c,rfl,ho,hb⟩;obtain⟨m,hm⟩:∃ m,m=(treeB t).length:=⟨_,rfl⟩
  have HA:Hid (Own w2 w.heap.size 5 1 A m c (u8s (treeB t))):=by rw[hm];exact ho.mono HB2.out.size
  have HB:=Lib.hid (HB2.out.trans (hb.mono HB2.out.size));rw[← hm];have HM:=Lib.hid hm;clear ho hb hm HC;go_wp2;go_ret;rw[← HM.out];exact⟨A,c,rfl,HA.out,HB.out⟩
end Pk
end Go.Proofs.YtcbpgemiffmieaaGreat
