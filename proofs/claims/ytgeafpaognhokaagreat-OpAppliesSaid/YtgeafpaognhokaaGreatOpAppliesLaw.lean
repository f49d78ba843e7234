/- Proved: the law OpApplies answers true for every tree, every change, every dot that can be handed in, and leaves its arguments as they were. Conditions: none. -/
import Derived.Test.YtgeafpaognhokaaGreatG00
import Derived.Test.YtgeafpaognhokaaGreatG1110
import Derived.Test.YtgeafpaognhokaaGreatOpApp
import Derived.Test.YtgeafpaognhokaaGreatOpApply
import Derived.Test.YtgeafpaognhokaaGreatG60
set_option maxRecDepth 100000
set_option maxHeartbeats 4000000
open Go.ChangeShapes Go.WideShapes Go.ChangeAt Go.RowKit
namespace Go.Proofs.YtgeafpaognhokaaGreat
namespace lawOpApplies
open Tr Cx Cs Sp Rw Classical
theorem small_tree (t:T) (Ae Ak:Option Addr) (ne nk ce ck:Nat) (w:World) (hl:LenT reachBytes t) (hr:RdT w w.heap.size t ⟨Ae,ne,ce⟩ ⟨Ak,nk,ck⟩) :
  Calls Tryz.prog 19 #[.agg #[.slice Ae ne ce,.slice Ak nk ck]] w fun e w'=>∃ b:Bool,e = .returned (.bool b)∧(b=true→nodes t≤60)∧Below w.heap.size w w':=by
 obtain⟨p,hp⟩:∃ p,p=w.heap.size:=⟨_,rfl⟩;have HKc:=Lib.hid (tree_box w Ae Ak ne nk ce ck);rw[← hp]at HKc;obtain⟨W,hW⟩:∃ W,W=w.alloc (.cells #[.slice Ae ne ce,.slice Ak nk ck] 35):=⟨_,rfl⟩;rw[← hW]at HKc;have HP:=Lib.hid hp;have HW:=Lib.hid hW;have HSM:=Lib.hid (small_to t Ae Ak ne nk ce ck 60 60 rfl W (by omega) hl (RdT.more HKc.out.below.size _ (RdT.below hr HKc.out.below)));have c0:=HKc.out.c0;have c1:=HKc.out.c1;clear hp hW hl hr;go_enter Tryz.func19,Tryz.ntmps19;go_wp2_with fail;rw[← HP.out,← HW.out];refine HSM.out.mono ?_;rintro e v1 ⟨b,rfl,hb,hb9⟩;have HKc:=Lib.hid (HKc.out.later hb9);have HB:=Lib.hid hb;clear hb9 hb c0 c1 HSM;go_wp2_with fail;go_ret;exact⟨b,rfl,HB.out,HKc.out.below⟩
theorem delta_eq {t:T} {o:OpM} {d:Int×Int} {x y:K} (hx:DeltaOf t o d x) (hy:DeltaOf t o d y):x=y:=by
 obtain⟨u,hu,hp⟩:=hx.ctx;obtain⟨u2,hu2,hp2⟩:=hy.ctx;rw[hu2.eq hu]at hp2;exact Prod.ext (hx.tree.trans hy.tree.symm) (hp.eq hp2)
theorem walk_any (t:T) (Ae Ak:Option Addr) (ne nk ce ck:Nat) (xp:List ByteArray) (xa:Int) (xs:ByteArray) (xv:Int) (xA:Option Addr) (xn xc:Nat) (a n:Int) (w:World) (hr:RdT w w.heap.size t ⟨Ae,ne,ce⟩ ⟨Ak,nk,ck⟩) (hl:LenT reachBytes t) (hp:Rd w w.heap.size 1 xA xn xc (Tr.strs xp)) :
  Calls Tryz.prog 5 #[.agg #[.slice Ae ne ce,.slice Ak nk ck],.agg #[.slice xA xn xc,.int .i64 xa,.string xs,.int .i64 xv],.agg #[.int .i64 a,.int .i64 n]] w fun e w'=>e = .returned (.bool true)∧Below w.heap.size w w':=by
 obtain⟨W,p,q,s,HW,HP,HQ,HS,HKc⟩:∃ (W:World) (p q s:Nat),Hid (W=(((w.alloc (.cells #[.slice Ae ne ce,.slice Ak nk ck] 35)).alloc (.cells #[.slice xA xn xc,.int .i64 xa,.string xs,.int .i64 xv] 27)).alloc (.cells #[.int .i64 a,.int .i64 n] 37)))∧Hid (p=w.heap.size)∧Hid (q=p+1)∧Hid (s=q+1)∧Hid (Kept [(⟨p,0,none⟩,.slice Ae ne ce),(⟨p,1,none⟩,.slice Ak nk ck),(⟨q,0,none⟩,.slice xA xn xc),(⟨q,1,none⟩,.int .i64 xa),(⟨q,2,none⟩,.string xs),(⟨q,3,none⟩,.int .i64 xv),(⟨s,0,none⟩,.int .i64 a),(⟨s,1,none⟩,.int .i64 n)] w W):=by
  refine⟨_,_,_,_,rfl,rfl,rfl,rfl,?_⟩;have h0:=Kept.nil_of (show Below w.heap.size w ((((w.alloc (.cells #[.slice Ae ne ce,.slice Ak nk ck] 35)).alloc (.cells #[.slice xA xn xc,.int .i64 xa,.string xs,.int .i64 xv] 27)).alloc (.cells #[.int .i64 a,.int .i64 n] 37))) from (((Below.refl _ _).alloc (Nat.le_refl _) _).alloc (by simp) _).alloc (by simp;omega) _)
  refine ((((((((h0).cons_of ?_).cons_of ?_).cons_of ?_).cons_of ?_).cons_of ?_).cons_of ?_).cons_of ?_).cons_of ?_ <;> go_simp
 have R:=Lib.hid (RdT.later hr HKc.out.below);have RP:=Lib.hid (hp.later HKc.out.below);have L:=Lib.hid hl;clear hr hp hl;obtain⟨c0,c1,c2,c3,c4,c5,c6,c7,-⟩:=HKc.out.cj;go_enter Tryz.func5,Tryz.ntmps5;go_wp2_with fail;rw[← HW.out,← HP.out]
 try rw[← HQ.out]
 try rw[← HS.out]
 refine (awake15 W).mono ?_;rintro e v1 ⟨rfl,hb9⟩;have HKc:=Lib.hid (HKc.out.later hb9);have R:=Lib.hid (RdT.later R.out hb9);have RP:=Lib.hid (RP.out.later hb9);clear hb9;clear c0 c1 c2 c3 c4 c5 c6 c7;obtain⟨c0,c1,c2,c3,c4,c5,c6,c7,-⟩:=HKc.out.cj;go_wp2_with fail;refine (small_tree t Ae Ak ne nk ce ck v1 L.out R.out).mono ?_;rintro e v2 ⟨b9,rfl,hsm,hb9⟩;have HSM:=Lib.hid hsm;clear hsm;have HKc:=Lib.hid (HKc.out.later hb9);have R:=Lib.hid (RdT.later R.out hb9);have RP:=Lib.hid (RP.out.later hb9);clear hb9;clear c0 c1 c2 c3 c4 c5 c6 c7
 cases b9 with
 | false=>
  obtain⟨c0,c1,c2,c3,c4,c5,c6,c7,-⟩:=HKc.out.cj;go_wp2_with fail;refine (awake15 _).mono ?_;rintro e v99 ⟨rfl,hb9⟩;have HKc:=Lib.hid (HKc.out.later hb9);clear hb9;go_wp2_with fail;go_ret;exact⟨by first | rfl | simp,HKc.out.below⟩
 | true=>
  have N:Hid (nodes t≤60):=HSM.out rfl;clear HSM
  by_cases h20:20<xn
  ·have f20:decide ((20:Int)<(xn:Int))=true:=decide_eq_true (by omega)
   obtain⟨c0,c1,c2,c3,c4,c5,c6,c7,-⟩:=HKc.out.cj;go_wp2_with fail;refine (awake15 _).mono ?_;rintro e v99 ⟨rfl,hb9⟩;have HKc:=Lib.hid (HKc.out.later hb9);clear hb9;go_wp2_with fail;go_ret;exact⟨by first | rfl | simp,HKc.out.below⟩
  ·have f20:decide ((20:Int)<(xn:Int))=false:=decide_eq_false (by omega)
   have HX:Hid (xn≤20):=by unfold Hid;omega
   clear h20;obtain⟨er,her⟩:∃ e,appE t ⟨xp,xa,xs,xv⟩ a n=e:=⟨_,rfl⟩;have HER:=Lib.hid her;clear her;obtain⟨c0,c1,c2,c3,c4,c5,c6,c7,-⟩:=HKc.out.cj;go_wp2_with fail;refine (oapply_any t Ae Ak ne nk ce ck xp xa xs xv xA xn xc a n v2 er HER.out L.out (by have:=N.out;omega) R.out (by have:=N.out;omega) (by have:=HX.out;omega) RP.out).mono ?_;rintro e v3 ⟨kx,Xe,xe1,xe2,Xk,xk1,xk2,Xc,xc1,xc2,rfl,how,hdo,hb9⟩;have HKc:=Lib.hid (HKc.out.later hb9);have R:=Lib.hid (RdT.later R.out hb9);have RP:=Lib.hid (RP.out.later hb9);clear hb9;clear c0 c1 c2 c3 c4 c5 c6 c7;have RX:=Lib.hid (RdP.of_own how.out);have HXD:=Lib.hid hdo.out;clear how hdo;obtain⟨gx,hgx⟩:∃ g,g=v3.heap.size:=⟨_,rfl⟩;obtain⟨v4,hv4⟩:∃ W,W=v3.alloc (.cells #[.slice Xe xe1 xe2,.slice Xk xk1 xk2,.slice Xc xc1 xc2] 42):=⟨_,rfl⟩
   have hb9:Below v3.heap.size v3 v4:=by rw[hv4];exact Dt.box_below _ _ _
   have b0:v4.cell? ⟨gx,0,none⟩=some (.slice Xe xe1 xe2):=by rw[hv4,hgx];go_simp
   have b1:v4.cell? ⟨gx,1,none⟩=some (.slice Xk xk1 xk2):=by rw[hv4,hgx];go_simp
   have b2:v4.cell? ⟨gx,2,none⟩=some (.slice Xc xc1 xc2):=by rw[hv4,hgx];go_simp
   have HKc:=Lib.hid (HKc.out.later hb9);have R:=Lib.hid (RdT.later R.out hb9);have RP:=Lib.hid (RP.out.later hb9);have RX:=Lib.hid (RX.out.later hb9);clear hb9;have HKc:=Lib.hid (((HKc.out.cons_of b2).cons_of b1).cons_of b0);have Hgx:=Lib.hid hgx;have Hv4:=Lib.hid hv4;clear hgx hv4 b0 b1 b2;obtain⟨c0,c1,c2,c3,c4,c5,c6,c7,c8,c9,c10,-⟩:=HKc.out.cj;rw[Hv4.out]at c0 c1 c2 c3 c4 c5 c6 c7 c8 c9 c10;rw[Hgx.out]at c0 c1 c2;go_wp2_with fail;rw[← Hgx.out,← Hv4.out];refine (refapply_any t Ae Ak ne nk ce ck xp xa xs xv xA xn xc a n v4 er HER.out L.out (by have:=N.out;omega) R.out (by have:=N.out;omega) (by have:=HX.out;omega) RP.out).mono ?_;rintro e v5 ⟨ky,Ye,ye1,ye2,Yk,yk1,yk2,Yc,yc1,yc2,rfl,how,hdo,hb9⟩;have HKc:=Lib.hid (HKc.out.later hb9);have R:=Lib.hid (RdT.later R.out hb9);have RP:=Lib.hid (RP.out.later hb9);have RX:=Lib.hid (RX.out.later hb9)
   clear hb9;clear c0 c1 c2 c3 c4 c5 c6 c7 c8 c9 c10;have RY:=Lib.hid (RdP.of_own how.out);have HYD:=Lib.hid hdo.out;clear how hdo;obtain⟨gy,hgy⟩:∃ g,g=v5.heap.size:=⟨_,rfl⟩;obtain⟨v6,hv6⟩:∃ W,W=v5.alloc (.cells #[.slice Ye ye1 ye2,.slice Yk yk1 yk2,.slice Yc yc1 yc2] 42):=⟨_,rfl⟩
   have hb9:Below v5.heap.size v5 v6:=by rw[hv6];exact Dt.box_below _ _ _
   have b0:v6.cell? ⟨gy,0,none⟩=some (.slice Ye ye1 ye2):=by rw[hv6,hgy];go_simp
   have b1:v6.cell? ⟨gy,1,none⟩=some (.slice Yk yk1 yk2):=by rw[hv6,hgy];go_simp
   have b2:v6.cell? ⟨gy,2,none⟩=some (.slice Yc yc1 yc2):=by rw[hv6,hgy];go_simp
   have HKc:=Lib.hid (HKc.out.later hb9);have R:=Lib.hid (RdT.later R.out hb9);have RP:=Lib.hid (RP.out.later hb9);have RX:=Lib.hid (RX.out.later hb9);have RY:=Lib.hid (RY.out.later hb9);clear hb9;have HKc:=Lib.hid (((HKc.out.cons_of b2).cons_of b1).cons_of b0);have Hgy:=Lib.hid hgy;have Hv6:=Lib.hid hv6;clear hgy hv6 b0 b1 b2
   have HEQ:Hid (kx=ky∧nodes kx.1≤10∧xc1≤1000):=by
    have h9:=N.out
    by_cases h0:er=0
    ·obtain⟨h1,h2⟩:=HXD.out.1 h0
     obtain⟨h3,_⟩:=HYD.out.1 h0;refine⟨delta_eq h1 h3,?_,by omega⟩;have hap:=HER.out;rw[h0]at hap;rw[h1.tree]
     split
     ·rw[Tr.nodes_wrap,nodes_one]
      have h4:OpOk ⟨xp,xa,xs,xv⟩:=opE_zero.1 (Classical.byContradiction fun h5=>by
       unfold appE at hap
       by_cases h6:Tr.rightB 5 t=false
       ·rw[if_pos h6]at hap;cases hap
       ·rw[if_neg h6,if_pos h5]at hap
        exact h5 hap)
      have h6:=(end_keys h4).2;omega
     ·rw[nodes_none];omega
    ·have h1:=HXD.out.2 h0
     have h2:=HYD.out.2 h0;have h3:=RX.out.len;rw[h1]at h3;refine⟨h1.trans h2.symm,by rw[h1];show nodes none_≤10;rw[nodes_none];omega,?_⟩;have h4:(noneK.2).length=0:=rfl;dsimp only at h3;omega
   obtain⟨c0,c1,c2,c3,c4,c5,c6,c7,c8,c9,c10,c11,c12,c13,-⟩:=HKc.out.cj;rw[Hv6.out]at c0 c1 c2 c3 c4 c5 c6 c7 c8 c9 c10 c11 c12 c13;rw[Hgy.out]at c0 c1 c2;go_wp2_with fail;rw[← Hgy.out,← Hv6.out];refine (refsameK_any kx.1 ky.1 kx.2 ky.2 Xe Xk Xc Ye Yk Yc xe1 xk1 xe2 xk2 xc1 xc2 ye1 yk1 ye2 yk2 yc1 yc2 v6 true (decide_eq_true (by rw[HEQ.out.1])) (by have:=HEQ.out;omega) RX.out.len (by have:=HEQ.out;omega) RX.out.tree RX.out.ctx RY.out.len RY.out.tree RY.out.ctx).mono ?_;rintro e v7 ⟨rfl,hb9⟩;have HKc:=Lib.hid (HKc.out.later hb9);have R:=Lib.hid (RdT.later R.out hb9);have RP:=Lib.hid (RP.out.later hb9);have RX:=Lib.hid (RX.out.later hb9);have RY:=Lib.hid (RY.out.later hb9);clear hb9;clear c0 c1 c2 c3 c4 c5 c6 c7 c8 c9 c10 c11 c12 c13;go_wp2_with fail;go_ret;exact⟨by first | rfl | simp,HKc.out.below⟩
set_option maxRecDepth 100000 in
theorem lifted (os:Os) (started:os.Started) (H:Type) (enc:TypeId×Value→H) :
  ReturnsInHanded {} Tryz.checked os 5 .any (Rows.opAppliesSpec.pre6 enc Tryz.prog Tryz.f5 Rows.opAppliesRow.domain false) (Rows.opAppliesSpec.post enc Tryz.prog Tryz.f5 false true false false):=by
 refine returnsInHanded_of_change_sized (C:=Tryz.checked) own started (by kernel_rfl) Tryz.func5
  (ChangeSpec.witness6 (enc:=enc) (C:=Tryz.checked) false ⟨#[],#[.agg #[.slice none 0 0,.slice none 0 0],.agg #[.slice none 0 0,.int .i64 0,.string ByteArray.empty,.int .i64 0],.agg #[.int .i64 0,.int .i64 0]],[]⟩ 8 (by kernel_rfl) (by kernel_rfl) (by kernel_rfl) (by kernel_rfl)) ?_
 intro W base args ds gs before hval0 hW _ hsz0 _;have hval:∀ (j:Nat) t v,Tryz.f5.params[j]?=some t→args[j]?=some v→Value.okWide Tryz.prog W .any base t v:=hval0;have hW':=hW;obtain⟨p,q,hA0,hV,rfl,hfz,hnd⟩:=hW;have hA:DataW.TrodAll enc Tryz.prog W 0 (fun _=>true) true Tryz.f5.params.toList args.toList ds p:=hA0;rw[Tryz.params5]at hA hval;obtain⟨v0,v1,v2,d0,d1,d2,p0,p1,p2,rfl,rfl,rfl,h0,h1,h2⟩:=trodAll_three hA;obtain⟨rfl,rfl⟩:=trodVars_none hV;have hsz:(DataW.weightsEach Tryz.prog (35::27::37::_) (d0::d1::d2::_)).all (· ≤ reachBytes)=true:=hsz0;obtain⟨hw0,hsz⟩:=Tr.weights_head hsz;obtain⟨t0,ae0,ak0,ne0,nk0,ce0,ck0,rfl,hr0,hl0⟩:=Tr.treeV_of_trod (hval 0 35 v0 rfl rfl) h0 hw0
 obtain⟨cs1,rfl⟩:∃ cs,v1 = .agg cs:=by
  have h:=hval 1 27 v1 rfl rfl;simp only[Value.okWide,Tryz.underlying27]at h;obtain⟨cs,h1,_⟩:=h;exact⟨cs,h1⟩
 obtain⟨f1,hf1⟩:=h1;obtain⟨cs1⟩:=cs1;obtain⟨A1,n1,c1,⟨xp1,xa1,xs1,xv1⟩,he1,hp1⟩:=Cs.op_of_trod hf1;obtain rfl:cs1=_:=he1;obtain⟨da2,dn2,rfl,_,_⟩:=Dt.dot_of_trod (hval 2 37 v2 rfl rfl) h2;refine (walk_any t0 ae0 ak0 ne0 nk0 ce0 ck0 xp1 xa1 xs1 xv1 A1 n1 c1 da2 dn2 W hr0 hl0 hp1).mono fun e W' ⟨he,hb⟩=>?_;subst he;exact⟨_,rfl,law_post hW' (by kernel_rfl) rfl rfl rfl hb⟩
theorem proved:Rows.OpAppliesSaid:=
 OpenClaim.holds_of_wide 5 Tryz.f5 rfl rfl rfl rfl rfl rfl rfl ⟨rfl,rfl,rfl,rfl,rfl⟩ rfl rfl rfl rfl rfl (by kernel_rfl) Tryz.func5 (by kernel_rfl)
  (of_decide_eq_true (by kernel_rfl)) (by unfold Func.isWrapper;first | (rw[if_pos (by decide +kernel)];kernel_rfl) | (rw[if_neg (by decide +kernel)];exact⟨rfl,rfl⟩))
  (fun os started H enc _=>lifted os started H enc)
#print axioms proved
end lawOpApplies
end Go.Proofs.YtgeafpaognhokaaGreat
