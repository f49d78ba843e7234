/- Proved: the law OpRight answers true for every change that can be handed in, and leaves its arguments as they were. Conditions: none. -/
import Derived.Test.YtgeafpaognhokaaGreatG00
import Derived.Test.YtgeafpaognhokaaGreatG1110
import Derived.Test.YtgeafpaognhokaaGreatOpRef1
import Derived.Test.YtgeafpaognhokaaGreatG70
open Go.ChangeShapes Go.WideShapes Go.ChangeAt Go.RowKit
namespace Go.Proofs.YtgeafpaognhokaaGreat
namespace lawOpRight
open Tr Cx Cs Sp Rw Classical
set_option maxRecDepth 100000 in
set_option maxHeartbeats 4000000 in
theorem walk_any (xp:List ByteArray) (xa:Int) (xs:ByteArray) (xv:Int) (xA:Option Addr) (xn xc:Nat) (w:World) (hp:Rd w w.heap.size 1 xA xn xc (Tr.strs xp)) :
  Calls Tryz.prog 4 #[.agg #[.slice xA xn xc,.int .i64 xa,.string xs,.int .i64 xv]] w fun e w'=>e = .returned (.bool true)∧Below w.heap.size w w':=by
 obtain⟨W,p,HW,HP,HKc⟩:∃ (W:World) (p:Nat),Hid (W=(w.alloc (.cells #[.slice xA xn xc,.int .i64 xa,.string xs,.int .i64 xv] 27)))∧Hid (p=w.heap.size) ∧  Hid (Kept [(⟨p,0,none⟩,.slice xA xn xc),(⟨p,1,none⟩,.int .i64 xa),(⟨p,2,none⟩,.string xs),(⟨p,3,none⟩,.int .i64 xv)] w W):=by
  refine⟨_,_,rfl,rfl,?_⟩;have h0:=Kept.nil_of (show Below w.heap.size w ((w.alloc (.cells #[.slice xA xn xc,.int .i64 xa,.string xs,.int .i64 xv] 27))) from (Below.refl _ _).alloc (Nat.le_refl _) _)
  refine ((((h0).cons_of ?_).cons_of ?_).cons_of ?_).cons_of ?_ <;> go_simp
 have RP:=Lib.hid (hp.later HKc.out.below);clear hp;obtain⟨c0,c1,c2,c3,-⟩:=HKc.out.cj;go_enter Tryz.func4,Tryz.ntmps4;go_wp2_with fail;rw[← HW.out,← HP.out];refine (awake15 W).mono ?_;rintro e v1 ⟨rfl,hb9⟩;have HKc:=Lib.hid (HKc.out.later hb9);have RP:=Lib.hid (RP.out.later hb9);clear hb9;clear c0 c1 c2 c3
 by_cases h3:100<xn
 ·have f3:(100:Int)<(xn:Int):=by omega
  have f4:decide ((100:Int)<(xn:Int))=true:=decide_eq_true f3;obtain⟨c0,c1,c2,c3,-⟩:=HKc.out.cj;go_wp2_with fail;refine (awake15 _).mono ?_;rintro e v99 ⟨rfl,hb9⟩;have HKc:=Lib.hid (HKc.out.later hb9);clear hb9;go_wp2_with fail;go_ret;exact⟨by first | rfl | simp,HKc.out.below⟩
 ·have f4:decide ((100:Int)<(xn:Int))=false:=decide_eq_false (by omega)
  have HX:Hid (xn≤100):=by unfold Hid;omega
  clear h3;obtain⟨z0,hz0⟩:∃ z,pathE xp=z:=⟨_,rfl⟩;have HZ0:=Lib.hid hz0;obtain⟨b0,hb0⟩:∃ b,decide (z0=0)=b:=⟨_,rfl⟩;have HBB0:=Lib.hid hb0;obtain⟨z1,hz1⟩:∃ z,opE ⟨xp,xa,xs,xv⟩=z:=⟨_,rfl⟩;have HZ1:=Lib.hid hz1;obtain⟨b1,hb1⟩:∃ b,decide (z1=0)=b:=⟨_,rfl⟩;have HBB1:=Lib.hid hb1;clear hz0 hb0 hz1 hb1
  have g0:(z0==0)=b0:=by rw[← HBB0.out];by_cases h:z0=0 <;> simp[h]
  have g1:(z1==0)=b1:=by rw[← HBB1.out];by_cases h:z1=0 <;> simp[h]
  have e0:(b0==b0)=true:=by simp
  have e1:(b1==b1)=true:=by simp
  obtain⟨c0,c1,c2,c3,-⟩:=HKc.out.cj;go_wp2_with fail;clear c0 c1 c2 c3;refine wp_region_held_drew (S:=Conj _) (by kernel_rfl) HKc.out.drew.cj (fun hHeld=>?_);obtain⟨v2,hv2⟩:∃ v,v=v1.drew:=⟨_,rfl⟩
  have hb9:Below v1.heap.size v1 v2:=by rw[hv2];exact (Below.refl _ _).drew
  have HKc:=Lib.hid (HKc.out.later hb9);have RP:=Lib.hid (RP.out.later hb9);clear hb9;rw[← hv2]at hHeld ⊢;clear hv2;refine Tk 0 12 ?_;refine Tk 1 13 ?_;refine Tk 3 15 ?_;refine Tk 4 16 ?_;refine Tc 2 (fun K hK=>?_);go_simp;(go_at_call 15;refine (orpath_any xp xn xA xc v2 b0 (by rw[HZ0.out];exact HBB0.out) (by have:=HX.out;omega) RP.out).mono ?_);rintro e v3 ⟨rfl,hb9⟩;have HKc:=Lib.hid (HKc.out.later hb9);have RP:=Lib.hid (RP.out.later hb9);clear hb9;clear hHeld;refine Th hK ?_ (fun hHeld=>?_)
  ·exact HKc.out.cj
  clear hK K;refine Tc 5 (fun K hK=>?_);go_simp;(go_at_call 16;refine (refpath_any xp xn xA xc v3 z0 HZ0.out (by have:=HX.out;omega) RP.out).mono ?_);rintro e v4 ⟨rfl,hb9⟩;have HKc:=Lib.hid (HKc.out.later hb9);have RP:=Lib.hid (RP.out.later hb9);clear hb9;clear hHeld;refine Th hK ?_ (fun hHeld=>?_)
  ·exact HKc.out.cj
  clear hK K;refine Tk 6 18 ?_;refine Tk 7 19 ?_;refine Tk 8 20 ?_;refine Tk 9 21 ?_;refine Tk 11 23 ?_;refine Tc 10 (fun K hK=>?_);go_simp;(go_at_call 17;refine (oright_any xp xa xs xv xA xn xc v4 b1 (by rw[HZ1.out];exact HBB1.out) (by have:=HX.out;omega) RP.out).mono ?_);rintro e v5 ⟨rfl,hb9⟩;have HKc:=Lib.hid (HKc.out.later hb9);have RP:=Lib.hid (RP.out.later hb9);clear hb9;clear hHeld;refine Th hK ?_ (fun hHeld=>?_)
  ·exact HKc.out.cj
  clear hK K;refine Tc 12 (fun K hK=>?_);go_simp;(go_at_call 18;refine (refop_any xp xa xs xv xA xn xc v5 z1 HZ1.out (by have:=HX.out;omega) RP.out).mono ?_);rintro e v6 ⟨rfl,hb9⟩;have HKc:=Lib.hid (HKc.out.later hb9);have RP:=Lib.hid (RP.out.later hb9);clear hb9;clear hHeld;refine Th hK ?_ (fun hHeld=>?_)
  ·exact HKc.out.cj
  clear hK K;refine Tk 13 25 ?_;refine Tk 14 26 ?_;refine Tk 15 27 ?_;refine Tk 16 2 ?_;refine wpAnyH_done (by kernel_rfl) ?_ _;clear hHeld;go_wp2_with fail;go_ret;exact⟨by first | rfl | simp,HKc.out.below⟩
set_option maxRecDepth 100000 in
theorem lifted (os:Os) (started:os.Started) (H:Type) (enc:TypeId×Value→H) :
  ReturnsInHanded {} Tryz.checked os 4 .any (Rows.opRightSpec.pre6 enc Tryz.prog Tryz.f4 Rows.opRightRow.domain false) (Rows.opRightSpec.post enc Tryz.prog Tryz.f4 false true false false):=by
 refine returnsInHanded_of_change_sized (C:=Tryz.checked) own started (by kernel_rfl) Tryz.func4
  (ChangeSpec.witness6 (enc:=enc) (C:=Tryz.checked) false ⟨#[],#[.agg #[.slice none 0 0,.int .i64 0,.string ByteArray.empty,.int .i64 0]],[]⟩ 8 (by kernel_rfl) (by kernel_rfl) (by kernel_rfl) (by kernel_rfl)) ?_
 intro W base args ds gs before hval0 hW _ hsz0 _;have hval:∀ (j:Nat) t v,Tryz.f4.params[j]?=some t→args[j]?=some v→Value.okWide Tryz.prog W .any base t v:=hval0;have hW':=hW;obtain⟨p,q,hA0,hV,rfl,hfz,hnd⟩:=hW;have hA:DataW.TrodAll enc Tryz.prog W 0 (fun _=>true) true Tryz.f4.params.toList args.toList ds p:=hA0;rw[Tryz.params4]at hA hval;obtain⟨v0,d0,rfl,rfl,h0⟩:=trodAll_one hA;obtain⟨rfl,rfl⟩:=trodVars_none hV
 obtain⟨cs0,rfl⟩:∃ cs,v0 = .agg cs:=by
  have h:=hval 0 27 v0 rfl rfl;simp only[Value.okWide,Tryz.underlying27]at h;obtain⟨cs,h1,_⟩:=h;exact⟨cs,h1⟩
 obtain⟨f0,hf0⟩:=h0;obtain⟨cs0⟩:=cs0;obtain⟨A0,n0,c0,⟨xp0,xa0,xs0,xv0⟩,he0,hp0⟩:=Cs.op_of_trod hf0;obtain rfl:cs0=_:=he0;refine (walk_any xp0 xa0 xs0 xv0 A0 n0 c0 W hp0).mono fun e W' ⟨he,hb⟩=>?_;subst he;exact⟨_,rfl,law_post hW' (by kernel_rfl) rfl rfl rfl hb⟩
theorem proved:Rows.OpRightSaid:=
 OpenClaim.holds_of_wide 4 Tryz.f4 rfl rfl rfl rfl rfl rfl rfl ⟨rfl,rfl,rfl,rfl,rfl⟩ rfl rfl rfl rfl rfl (by kernel_rfl) Tryz.func4 (by kernel_rfl)
  (of_decide_eq_true (by kernel_rfl)) (by unfold Func.isWrapper;first | (rw[if_pos (by decide +kernel)];kernel_rfl) | (rw[if_neg (by decide +kernel)];exact⟨rfl,rfl⟩))
  (fun os started H enc _=>lifted os started H enc)
#print axioms proved
end lawOpRight
end Go.Proofs.YtgeafpaognhokaaGreat
