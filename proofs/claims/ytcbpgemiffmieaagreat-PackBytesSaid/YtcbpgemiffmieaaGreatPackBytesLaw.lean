/- Proved: the law PackBytes answers true for everything known that can be handed in, and leaves its arguments as they were. Conditions: none. -/
import Derived.Test.YtcbpgemiffmieaaGreatG00
import Derived.Test.YtcbpgemiffmieaaGreatG60
import Derived.Test.YtcbpgemiffmieaaGreatG50
open Go.ChangeShapes Go.WideShapes Go.ChangeAt Go.RowKit
namespace Go.Proofs.YtcbpgemiffmieaaGreat
namespace lawPackBytes
open Tr Cx Cs Sp Rw Classical Pk Codec
theorem known_le {k:K} {n:Nat} (hk:RK k) (h1:nodes k.1≤40) (hl:k.2.length=n) (h2:n≤40):(causB k).length≤5000:=by
 unfold causB;have g1:=tree_le k.1 hk.tree (by omega);have g2:=ctx_le hk.ctx (by omega);rw[List.length_append];omega
set_option maxRecDepth 100000 in
set_option maxHeartbeats 4000000 in
theorem walk_any (t:T) (cs:List S3) (Ae Ak Ca:Option Addr) (ne nk ce ck na ca:Nat) (w:World) (hr:RdP w ⟨(t,cs),⟨Ae,ne,ce⟩,⟨Ak,nk,ck⟩,⟨Ca,na,ca⟩⟩) (hl:LenT reachBytes t) :
  Calls Tryz.prog 6 #[.agg #[.slice Ae ne ce,.slice Ak nk ck,.slice Ca na ca]] w fun e w'=>e = .returned (.bool true)∧Below w.heap.size w w':=by
 obtain⟨W,p,HW,HP,HKc⟩:∃ (W:World) (p:Nat),Hid (W=(w.alloc (.cells #[.slice Ae ne ce,.slice Ak nk ck,.slice Ca na ca] 37)))∧Hid (p=w.heap.size) ∧  Hid (Kept [(⟨p,0,none⟩,.slice Ae ne ce),(⟨p,1,none⟩,.slice Ak nk ck),(⟨p,2,none⟩,.slice Ca na ca)] w W):=by
  refine⟨_,_,rfl,rfl,?_⟩;have h0:=Kept.nil_of (show Below w.heap.size w ((w.alloc (.cells #[.slice Ae ne ce,.slice Ak nk ck,.slice Ca na ca] 37))) from (Below.refl _ _).alloc (Nat.le_refl _) _)
  refine (((h0).cons_of ?_).cons_of ?_).cons_of ?_ <;> go_simp
 have R:=Lib.hid (RdP.later hr HKc.out.below);have L:=Lib.hid hl;clear hr hl;obtain⟨c0,c1,c2,-⟩:=HKc.out.cj;go_enter Tryz.func6,Tryz.ntmps6;go_wp2_with fail;rw[← HW.out,← HP.out];refine (awake16 W).mono ?_;rintro e v1 ⟨rfl,hb9⟩;have HKc:=Lib.hid (HKc.out.later hb9);have R:=Lib.hid (R.out.later hb9);clear hb9;clear c0 c1 c2;obtain⟨c0,c1,c2,-⟩:=HKc.out.cj;go_wp2_with fail;refine (smallK_any t Ae Ak Ca ne nk ce ck na ca v1 L.out R.out.tree).mono ?_;rintro e v2 ⟨b9,rfl,hsm,hb9⟩;have HSM:=Lib.hid hsm;clear hsm;have HKc:=Lib.hid (HKc.out.later hb9);have R:=Lib.hid (R.out.later hb9);clear hb9;clear c0 c1 c2
 cases b9 with
 | false=>
  obtain⟨c0,c1,c2,-⟩:=HKc.out.cj;go_wp2_with fail;refine (awake16 _).mono ?_;rintro e v99 ⟨rfl,hb9⟩;have HKc:=Lib.hid (HKc.out.later hb9);clear hb9;go_wp2_with fail;go_ret;exact⟨by first | rfl | simp,HKc.out.below⟩
 | true=>
  have N:=Lib.hid (HSM.out rfl).1;have M:=Lib.hid (HSM.out rfl).2;clear HSM;have HLN:Hid (cs.length=na):=R.out.len;obtain⟨z,hz⟩:∃ z,rightKB (t,cs)=z:=⟨_,rfl⟩;have HZ:=Lib.hid hz;clear hz
  cases z with
  | false=>
   obtain⟨c0,c1,c2,-⟩:=HKc.out.cj;go_wp2_with fail;refine (bytes_any t cs Ae Ak Ca ne nk ce ck na ca v2 false HZ.out (by have:=N.out;omega) HLN.out (by have:=M.out;omega) R.out.tree R.out.ctx).mono ?_;rintro e v3 ⟨hb9,⟨_,rfl⟩ | ⟨h,_⟩ | ⟨h,_⟩⟩;rotate_left
   ·cases h
   ·cases h
   have HKc:=Lib.hid (HKc.out.later hb9);have R:=Lib.hid (R.out.later hb9);clear hb9;clear c0 c1 c2;obtain⟨c0,c1,c2,-⟩:=HKc.out.cj;go_wp2_with fail;refine (Cs.refrightK_any t cs Ae Ak Ca ne nk ce ck na ca v3 (by have:=N.out;omega) HLN.out (by have:=M.out;omega) R.out.tree R.out.ctx (by have:=N.out;omega)).mono ?_;rw[HZ.out];rintro e v4 ⟨rfl,hb9⟩;have HKc:=Lib.hid (HKc.out.later hb9);have R:=Lib.hid (R.out.later hb9);clear hb9;clear c0 c1 c2;go_wp2_with fail;go_ret;exact⟨by first | rfl | simp,HKc.out.below⟩
  | true=>
   have HKR:Hid (RK (t,cs)):=rightKB_iff.1 HZ.out;obtain⟨sb,hsb⟩:∃ s,s=causB (t,cs):=⟨_,rfl⟩
   have HLE:Hid (sb.length≤5000):=by rw[hsb];exact known_le HKR.out N.out HLN.out M.out
   obtain⟨m,hm⟩:∃ m,m=sb.length:=⟨_,rfl⟩;have HSB:=Lib.hid hsb;have HM:=Lib.hid hm;clear hsb hm;obtain⟨c0,c1,c2,-⟩:=HKc.out.cj;go_wp2_with fail;refine (bytes_any t cs Ae Ak Ca ne nk ce ck na ca v2 true HZ.out (by have:=N.out;omega) HLN.out (by have:=M.out;omega) R.out.tree R.out.ctx).mono ?_;unfold BytesP;rw[← HSB.out];rintro e v3 ⟨hb9,⟨h,_⟩ | ⟨_,h,_⟩ | ⟨_,_,Ab,cb,rfl,ho9⟩⟩
   ·cases h
   ·exact absurd h (by have:=HLE.out;omega)
   rw[← HM.out]at ho9 ⊢;have HKc:=Lib.hid (HKc.out.later hb9);have R:=Lib.hid (R.out.later hb9);have RB:Hid (Rd v3 v3.heap.size 1 Ab m cb (u8s sb)):=ho9.rd;clear hb9 ho9;clear c0 c1 c2;obtain⟨c0,c1,c2,-⟩:=HKc.out.cj;go_wp2_with fail;refine (Cs.refrightK_any t cs Ae Ak Ca ne nk ce ck na ca v3 (by have:=N.out;omega) HLN.out (by have:=M.out;omega) R.out.tree R.out.ctx (by have:=N.out;omega)).mono ?_;rw[HZ.out];rintro e v4 ⟨rfl,hb9⟩;have HKc:=Lib.hid (HKc.out.later hb9);have R:=Lib.hid (R.out.later hb9);have RB:=Lib.hid (RB.out.later hb9);clear hb9;clear c0 c1 c2;obtain⟨c0,c1,c2,-⟩:=HKc.out.cj;go_wp2_with fail;refine (causP_any t cs Ae Ak Ca ne nk ce ck na ca v4 true HZ.out (t,cs) rfl (by have:=N.out;omega) HLN.out (by have:=M.out;omega) R.out.tree R.out.ctx).mono ?_;unfold NewRow;rw[← HSB.out,← HM.out];rintro e v5 ⟨Aq,cq,rfl,ho9,hb9⟩
   have HKc:=Lib.hid (HKc.out.later hb9);have R:=Lib.hid (R.out.later hb9);have RB:=Lib.hid (RB.out.later hb9);clear hb9;have RC:Hid (Rd v5 v5.heap.size 1 Aq m cq (u8s sb)):=ho9.rd;clear ho9;clear c0 c1 c2;obtain⟨c0,c1,c2,-⟩:=HKc.out.cj;go_wp2_with fail;refine (read_any sb m Ab cb v5 HM.out.symm (by have:=HLE.out;have:=HM.out;omega) (cap_known (x:=[]) HKR.out (show nodes t≤10000 by have:=N.out;omega) (show cs.length≤10000 by have:=HLN.out;have:=M.out;omega) (by rw[List.append_nil];exact HSB.out)) RB.out).mono ?_;rintro e v6 ⟨u,⟨xA,xn,xc⟩,⟨xB,xm,xd⟩,⟨xC,xo,xe⟩,er,rfl,hu1,hu2,hu3,hu4,hb9⟩
   obtain⟨rfl,rfl⟩:er=0∧u=(t,cs):=by
    rcases hu4.out with ⟨e1,e2,_⟩ | ⟨_,_,hno⟩
    ·exact⟨e1,(caus_unlike u (t,cs)).1 (by rw[← e2];exact HSB.out)⟩
    ·exact absurd HSB.out (hno _ HKR.out)
   have hb9:=hb9.out;have HKc:=Lib.hid (HKc.out.later hb9);have R:=Lib.hid (R.out.later hb9);have RB:=Lib.hid (RB.out.later hb9);have RC:=Lib.hid (RC.out.later hb9);clear hb9;have RX:Hid (RdP v6 ⟨(t,cs),⟨xA,xn,xc⟩,⟨xB,xm,xd⟩,⟨xC,xo,xe⟩⟩):=⟨RdO.rd _ hu1.out,hu2.out,hu3.out.rd⟩;clear hu1 hu2 hu3 hu4;clear c0 c1 c2;obtain⟨g,hg⟩:∃ g,g=v6.heap.size:=⟨_,rfl⟩;obtain⟨v7,hv7⟩:∃ W,W=v6.alloc (.cells #[.slice xA xn xc,.slice xB xm xd,.slice xC xo xe] 37):=⟨_,rfl⟩
   have hb9:Below v6.heap.size v6 v7:=by rw[hv7];exact Dt.box_below _ _ _
   have b0:v7.cell? ⟨g,0,none⟩=some (.slice xA xn xc):=by rw[hv7,hg];go_simp
   have b1:v7.cell? ⟨g,1,none⟩=some (.slice xB xm xd):=by rw[hv7,hg];go_simp
   have b2:v7.cell? ⟨g,2,none⟩=some (.slice xC xo xe):=by rw[hv7,hg];go_simp
   have HKc:=Lib.hid (HKc.out.later hb9);have R:=Lib.hid (R.out.later hb9);have RB:=Lib.hid (RB.out.later hb9);have RC:=Lib.hid (RC.out.later hb9);have RX:=Lib.hid (RX.out.later hb9);clear hb9;have HKc:=Lib.hid (((HKc.out.cons_of b2).cons_of b1).cons_of b0);have Hg:=Lib.hid hg;have Hv7:=Lib.hid hv7;clear hg hv7 b0 b1 b2;have hs1:=run_str (P:=Tryz.prog) v7 25 9 5 Tryz.underlying25 Tryz.underlying5 Tryz.underlying9 RB.out;have hs2:=run_str (P:=Tryz.prog) v7 25 9 5 Tryz.underlying25 Tryz.underlying5 Tryz.underlying9 RC.out;rw[Hv7.out]at hs1 hs2;obtain⟨c0,c1,c2,c3,c4,c5,-⟩:=HKc.out.cj;rw[Hv7.out]at c0 c1 c2 c3 c4 c5;rw[Hg.out]at c0 c1 c2;go_wp2_with fail;rw[← Hg.out,← Hv7.out];refine (refsameK_any t t cs cs xA xB xC Ae Ak Ca xn xm xc xd xo xe ne nk ce ck na ca v7 true (by simp) (by have:=N.out;omega) RX.out.len (by have h:cs.length=xo:=RX.out.len;have:=HLN.out;have:=M.out;omega) RX.out.tree RX.out.ctx R.out.len R.out.tree R.out.ctx).mono ?_
   rintro e v8 ⟨rfl,hb9⟩;have HKc:=Lib.hid (HKc.out.later hb9);have R:=Lib.hid (R.out.later hb9);have RB:=Lib.hid (RB.out.later hb9);have RC:=Lib.hid (RC.out.later hb9);have RX:=Lib.hid (RX.out.later hb9);clear hb9;clear c0 c1 c2 c3 c4 c5;clear hs1 hs2;go_wp2_with fail;go_ret;exact⟨by first | rfl | simp,HKc.out.below⟩
set_option maxRecDepth 100000 in
theorem lifted (os:Os) (started:os.Started) (H:Type) (enc:TypeId×Value→H) :
  ReturnsInHanded {} Tryz.checked os 6 .any (Rows.packBytesSpec.pre6 enc Tryz.prog Tryz.f6 Rows.packBytesRow.domain false) (Rows.packBytesSpec.post enc Tryz.prog Tryz.f6 false true false false):=by
 refine returnsInHanded_of_change_sized (C:=Tryz.checked) own started (by kernel_rfl) Tryz.func6
  (ChangeSpec.witness6 (enc:=enc) (C:=Tryz.checked) false ⟨#[],#[.agg #[.slice none 0 0,.slice none 0 0,.slice none 0 0]],[]⟩ 8 (by kernel_rfl) (by kernel_rfl) (by kernel_rfl) (by kernel_rfl)) ?_
 intro W base args ds gs before hval0 hW _ hsz0 _;have hval:∀ (j:Nat) t v,Tryz.f6.params[j]?=some t→args[j]?=some v→Value.okWide Tryz.prog W .any base t v:=hval0;have hW':=hW;obtain⟨p,q,hA0,hV,rfl,hfz,hnd⟩:=hW;have hA:DataW.TrodAll enc Tryz.prog W 0 (fun _=>true) true Tryz.f6.params.toList args.toList ds p:=hA0;rw[Tryz.params6]at hA hval;obtain⟨v0,d0,rfl,rfl,h0⟩:=trodAll_one hA;obtain⟨rfl,rfl⟩:=trodVars_none hV;have hsz:(DataW.weightsEach Tryz.prog (37::_) (d0::_)).all (· ≤ reachBytes)=true:=hsz0;obtain⟨hw0,hsz⟩:=Tr.weights_head hsz;obtain⟨t0,s0,A0,B0,C0,n0,m0,ne0,nk0,nc0,nd0,rfl,hr0,hl0⟩:=Cs.cauV_of_trod (hval 0 37 v0 rfl rfl) h0 hw0;refine (walk_any t0 s0 A0 B0 C0 n0 m0 ne0 nk0 nc0 nd0 W hr0 hl0).mono fun e W' ⟨he,hb⟩=>?_
 subst he;exact⟨_,rfl,law_post hW' (by kernel_rfl) rfl rfl rfl hb⟩
theorem proved:Rows.PackBytesSaid:=
 OpenClaim.holds_of_wide 6 Tryz.f6 rfl rfl rfl rfl rfl rfl rfl ⟨rfl,rfl,rfl,rfl,rfl⟩ rfl rfl rfl rfl rfl (by kernel_rfl) Tryz.func6 (by kernel_rfl)
  (of_decide_eq_true (by kernel_rfl)) (by unfold Func.isWrapper;first | (rw[if_pos (by decide +kernel)];kernel_rfl) | (rw[if_neg (by decide +kernel)];exact⟨rfl,rfl⟩))
  (fun os started H enc _=>lifted os started H enc)
#print axioms proved
end lawPackBytes
end Go.Proofs.YtcbpgemiffmieaaGreat
