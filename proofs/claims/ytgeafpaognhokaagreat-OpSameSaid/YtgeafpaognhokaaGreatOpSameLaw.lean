/- Proved: the law OpSame answers true for every view, every view that can be handed in, and leaves its arguments as they were. Conditions: none. -/
import Derived.Test.YtgeafpaognhokaaGreatG00
import Derived.Test.YtgeafpaognhokaaGreatG1110
import Derived.Test.YtgeafpaognhokaaGreatG60
import Derived.Test.YtgeafpaognhokaaGreatG11110
open Go.ChangeShapes Go.WideShapes Go.ChangeAt Go.RowKit
namespace Go.Proofs.YtgeafpaognhokaaGreat
namespace lawOpSame
open Tr Cx Cs Sp Rw Classical
set_option maxRecDepth 100000 in
set_option maxHeartbeats 4000000 in
theorem walk_any (ka:Int) (oa:Bool) (na:Int) (a:List ByteArray) (A:Option Addr) (la ca:Nat) (kb:Int) (ob:Bool) (nb:Int) (b:List ByteArray) (B:Option Addr) (lb cb:Nat) (w:World) (hra:Rd w w.heap.size 1 A la ca (Tr.strs a)) (hrb:Rd w w.heap.size 1 B lb cb (Tr.strs b)) :
  Calls Tryz.prog 7 #[.agg #[.int .i64 ka,.bool oa,.int .i64 na,.slice A la ca],.agg #[.int .i64 kb,.bool ob,.int .i64 nb,.slice B lb cb]] w fun e w'=>e = .returned (.bool true)∧Below w.heap.size w w':=by
 obtain⟨W,p,q,HW,HP,HQ,HKc⟩:∃ (W:World) (p q:Nat),Hid (W=((w.alloc (.cells #[.int .i64 ka,.bool oa,.int .i64 na,.slice A la ca] 51)).alloc (.cells #[.int .i64 kb,.bool ob,.int .i64 nb,.slice B lb cb] 51)))∧Hid (p=w.heap.size)∧Hid (q=p+1)∧Hid (Kept [(⟨p,0,none⟩,.int .i64 ka),(⟨p,1,none⟩,.bool oa),(⟨p,2,none⟩,.int .i64 na),(⟨p,3,none⟩,.slice A la ca),(⟨q,0,none⟩,.int .i64 kb),(⟨q,1,none⟩,.bool ob),(⟨q,2,none⟩,.int .i64 nb),(⟨q,3,none⟩,.slice B lb cb)] w W):=by
  refine⟨_,_,_,rfl,rfl,rfl,?_⟩;have h0:=Kept.nil_of (show Below w.heap.size w (((w.alloc (.cells #[.int .i64 ka,.bool oa,.int .i64 na,.slice A la ca] 51)).alloc (.cells #[.int .i64 kb,.bool ob,.int .i64 nb,.slice B lb cb] 51))) from ((Below.refl _ _).alloc (Nat.le_refl _) _).alloc (by simp) _)
  refine ((((((((h0).cons_of ?_).cons_of ?_).cons_of ?_).cons_of ?_).cons_of ?_).cons_of ?_).cons_of ?_).cons_of ?_ <;> go_simp
 have RA:=Lib.hid (hra.later HKc.out.below);have RB:=Lib.hid (hrb.later HKc.out.below);clear hra hrb;obtain⟨c0,c1,c2,c3,c4,c5,c6,c7,-⟩:=HKc.out.cj;go_enter Tryz.func7,Tryz.ntmps7;go_wp2_with fail;rw[← HW.out,← HP.out]
 try rw[← HQ.out]
 refine (awake15 W).mono ?_;rintro e v1 ⟨rfl,hb9⟩;have HKc:=Lib.hid (HKc.out.later hb9);have RA:=Lib.hid (RA.out.later hb9);have RB:=Lib.hid (RB.out.later hb9);clear hb9;clear c0 c1 c2 c3 c4 c5 c6 c7
 by_cases h3:1000<la
 ·have f3:(1000:Int)<(la:Int):=by omega
  have f4:decide ((1000:Int)<(la:Int))=true:=decide_eq_true f3;obtain⟨c0,c1,c2,c3,c4,c5,c6,c7,-⟩:=HKc.out.cj;go_wp2_with fail;refine (awake15 _).mono ?_;rintro e v99 ⟨rfl,hb9⟩;have HKc:=Lib.hid (HKc.out.later hb9);clear hb9;go_wp2_with fail;go_ret;exact⟨by first | rfl | simp,HKc.out.below⟩
 ·have f4:decide ((1000:Int)<(la:Int))=false:=decide_eq_false (by omega)
  have HX:Hid (la≤1000):=by unfold Hid;omega
  clear h3;obtain⟨z,hz⟩:∃ z,decide (ka=kb∧oa=ob∧na=nb∧a=b)=z:=⟨_,rfl⟩;have HZ:=Lib.hid hz
  have e0:(z==z)=true:=by simp
  clear hz;obtain⟨c0,c1,c2,c3,c4,c5,c6,c7,-⟩:=HKc.out.cj;go_wp2_with fail;clear c0 c1 c2 c3 c4 c5 c6 c7;refine wp_region_held_drew (S:=Conj _) (by kernel_rfl) HKc.out.drew.cj (fun hHeld=>?_);obtain⟨v2,hv2⟩:∃ v,v=v1.drew:=⟨_,rfl⟩
  have hb9:Below v1.heap.size v1 v2:=by rw[hv2];exact (Below.refl _ _).drew
  have HKc:=Lib.hid (HKc.out.later hb9);have RA:=Lib.hid (RA.out.later hb9);have RB:=Lib.hid (RB.out.later hb9);clear hb9;rw[← hv2]at hHeld ⊢;clear hv2;refine Tk 0 14 ?_;refine Tk 1 15 ?_;refine Tk 3 17 ?_;refine Tk 4 18 ?_;refine Tc 2 (fun K hK=>?_);go_simp;(go_at_call 26;refine (osameV_any ka na kb nb oa ob a b A B la ca lb cb v2 z HZ.out HX.out RA.out RB.out).mono ?_);rintro e v3 ⟨rfl,hb9⟩;have HKc:=Lib.hid (HKc.out.later hb9);have RA:=Lib.hid (RA.out.later hb9);have RB:=Lib.hid (RB.out.later hb9);clear hb9;clear hHeld;refine Th hK ?_ (fun hHeld=>?_)
  ·exact HKc.out.cj
  clear hK K;refine Tc 5 (fun K hK=>?_);go_simp;(go_at_call 25;refine (refsameV_any ka na kb nb oa ob a b A B la ca lb cb v3 z HZ.out HX.out RA.out RB.out).mono ?_);rintro e v4 ⟨rfl,hb9⟩;have HKc:=Lib.hid (HKc.out.later hb9);have RA:=Lib.hid (RA.out.later hb9);have RB:=Lib.hid (RB.out.later hb9);clear hb9;clear hHeld;refine Th hK ?_ (fun hHeld=>?_)
  ·exact HKc.out.cj
  clear hK K;refine Tk 6 20 ?_;refine Tk 7 21 ?_;refine Tk 8 22 ?_;refine Tk 9 23 ?_;refine Tc 10 (fun K hK=>?_);go_simp;(go_at_call 26;refine (osameV_any ka na ka na oa oa a a A A la ca la ca v4 true (decide_eq_true ⟨rfl,rfl,rfl,rfl⟩) HX.out RA.out RA.out).mono ?_);rintro e v5 ⟨rfl,hb9⟩;have HKc:=Lib.hid (HKc.out.later hb9);have RA:=Lib.hid (RA.out.later hb9);have RB:=Lib.hid (RB.out.later hb9);clear hb9;clear hHeld;refine Th hK ?_ (fun hHeld=>?_)
  ·exact HKc.out.cj
  clear hK K;refine Tk 11 25 ?_;refine Tk 12 4 ?_;refine wpAnyH_done (by kernel_rfl) ?_ _;clear hHeld;go_wp2_with fail;go_ret;exact⟨by first | rfl | simp,HKc.out.below⟩
set_option maxRecDepth 100000 in
theorem lifted (os:Os) (started:os.Started) (H:Type) (enc:TypeId×Value→H) :
  ReturnsInHanded {} Tryz.checked os 7 .any (Rows.opSameSpec.pre6 enc Tryz.prog Tryz.f7 Rows.opSameRow.domain false) (Rows.opSameSpec.post enc Tryz.prog Tryz.f7 false true false false):=by
 refine returnsInHanded_of_change_sized (C:=Tryz.checked) own started (by kernel_rfl) Tryz.func7
  (ChangeSpec.witness6 (enc:=enc) (C:=Tryz.checked) false ⟨#[],#[.agg #[.int .i64 0,.bool false,.int .i64 0,.slice none 0 0],.agg #[.int .i64 0,.bool false,.int .i64 0,.slice none 0 0]],[]⟩ 8 (by kernel_rfl) (by kernel_rfl) (by kernel_rfl) (by kernel_rfl)) ?_
 intro W base args ds gs before hval0 hW _ hsz0 _;have hval:∀ (j:Nat) t v,Tryz.f7.params[j]?=some t→args[j]?=some v→Value.okWide Tryz.prog W .any base t v:=hval0;have hW':=hW;obtain⟨p,q,hA0,hV,rfl,hfz,hnd⟩:=hW;have hA:DataW.TrodAll enc Tryz.prog W 0 (fun _=>true) true Tryz.f7.params.toList args.toList ds p:=hA0;rw[Tryz.params7]at hA hval;obtain⟨v0,v1,d0,d1,p0,p1,rfl,rfl,rfl,h0,h1⟩:=trodAll_two hA;obtain⟨rfl,rfl⟩:=trodVars_none hV
 obtain⟨cs0,rfl⟩:∃ cs,v0 = .agg cs:=by
  have h:=hval 0 51 v0 rfl rfl;simp only[Value.okWide,Tryz.underlying51]at h;obtain⟨cs,h1,_⟩:=h;exact⟨cs,h1⟩
 obtain⟨f0,hf0⟩:=h0;obtain⟨cs0⟩:=cs0;obtain⟨A0,n0,c0,k0,o0,m0,l0,he0,hp0⟩:=Cs.view_of_trod hf0;obtain rfl:cs0=_:=he0
 obtain⟨cs1,rfl⟩:∃ cs,v1 = .agg cs:=by
  have h:=hval 1 51 v1 rfl rfl;simp only[Value.okWide,Tryz.underlying51]at h;obtain⟨cs,h1,_⟩:=h;exact⟨cs,h1⟩
 obtain⟨f1,hf1⟩:=h1;obtain⟨cs1⟩:=cs1;obtain⟨A1,n1,c1,k1,o1,m1,l1,he1,hp1⟩:=Cs.view_of_trod hf1;obtain rfl:cs1=_:=he1;refine (walk_any k0 o0 m0 l0 A0 n0 c0 k1 o1 m1 l1 A1 n1 c1 W hp0 hp1).mono fun e W' ⟨he,hb⟩=>?_;subst he;exact⟨_,rfl,law_post hW' (by kernel_rfl) rfl rfl rfl hb⟩
theorem proved:Rows.OpSameSaid:=
 OpenClaim.holds_of_wide 7 Tryz.f7 rfl rfl rfl rfl rfl rfl rfl ⟨rfl,rfl,rfl,rfl,rfl⟩ rfl rfl rfl rfl rfl (by kernel_rfl) Tryz.func7 (by kernel_rfl)
  (of_decide_eq_true (by kernel_rfl)) (by unfold Func.isWrapper;first | (rw[if_pos (by decide +kernel)];kernel_rfl) | (rw[if_neg (by decide +kernel)];exact⟨rfl,rfl⟩))
  (fun os started H enc _=>lifted os started H enc)
#print axioms proved
end lawOpSame
end Go.Proofs.YtgeafpaognhokaaGreat
