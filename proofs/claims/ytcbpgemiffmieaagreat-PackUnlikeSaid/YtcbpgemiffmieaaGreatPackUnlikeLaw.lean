/- Proved: the law PackUnlike answers true for everything known, everything known that can be handed in, and leaves its arguments as they were. Conditions: none. -/
import Derived.Test.YtcbpgemiffmieaaGreatG00
import Derived.Test.YtcbpgemiffmieaaGreatG60
open Go.ChangeShapes Go.WideShapes Go.ChangeAt Go.RowKit
namespace Go.Proofs.YtcbpgemiffmieaaGreat
namespace lawPackUnlike
open Tr Cx Cs Sp Rw Classical Pk Codec
theorem known_le {k:K} {n:Nat} (hk:RK k) (h1:nodes k.1≤40) (hl:k.2.length=n) (h2:n≤40):(causB k).length≤5000:=by
 unfold causB;have g1:=tree_le k.1 hk.tree (by omega);have g2:=ctx_le hk.ctx (by omega);rw[List.length_append];omega
set_option maxRecDepth 100000 in
set_option maxHeartbeats 4000000 in
theorem walk_any (t:T) (cs:List S3) (Ae Ak Ca:Option Addr) (ne nk ce ck na ca:Nat) (u:T) (ds:List S3) (Be Bk Cb:Option Addr) (me mk de dk nb cb:Nat) (w:World) (hr:RdP w ⟨(t,cs),⟨Ae,ne,ce⟩,⟨Ak,nk,ck⟩,⟨Ca,na,ca⟩⟩) (hl:LenT reachBytes t) (hr2:RdP w ⟨(u,ds),⟨Be,me,de⟩,⟨Bk,mk,dk⟩,⟨Cb,nb,cb⟩⟩) (hl2:LenT reachBytes u) :
  Calls Tryz.prog 8 #[.agg #[.slice Ae ne ce,.slice Ak nk ck,.slice Ca na ca],.agg #[.slice Be me de,.slice Bk mk dk,.slice Cb nb cb]] w fun e w'=>e = .returned (.bool true)∧Below w.heap.size w w':=by
 obtain⟨W,p,q,HW,HP,HQ,HKc⟩:∃ (W:World) (p q:Nat),Hid (W=((w.alloc (.cells #[.slice Ae ne ce,.slice Ak nk ck,.slice Ca na ca] 37)).alloc (.cells #[.slice Be me de,.slice Bk mk dk,.slice Cb nb cb] 37)))∧Hid (p=w.heap.size)∧Hid (q=p+1)∧Hid (Kept [(⟨p,0,none⟩,.slice Ae ne ce),(⟨p,1,none⟩,.slice Ak nk ck),(⟨p,2,none⟩,.slice Ca na ca),(⟨q,0,none⟩,.slice Be me de),(⟨q,1,none⟩,.slice Bk mk dk),(⟨q,2,none⟩,.slice Cb nb cb)] w W):=by
  refine⟨_,_,_,rfl,rfl,rfl,?_⟩;have h0:=Kept.nil_of (show Below w.heap.size w (((w.alloc (.cells #[.slice Ae ne ce,.slice Ak nk ck,.slice Ca na ca] 37)).alloc (.cells #[.slice Be me de,.slice Bk mk dk,.slice Cb nb cb] 37))) from ((Below.refl _ _).alloc (Nat.le_refl _) _).alloc (by simp) _)
  refine ((((((h0).cons_of ?_).cons_of ?_).cons_of ?_).cons_of ?_).cons_of ?_).cons_of ?_ <;> go_simp
 have R:=Lib.hid (RdP.later hr HKc.out.below);have L:=Lib.hid hl;have RQ:=Lib.hid (RdP.later hr2 HKc.out.below);have L2:=Lib.hid hl2;clear hr hl hr2 hl2;obtain⟨c0,c1,c2,c3,c4,c5,-⟩:=HKc.out.cj;go_enter Tryz.func8,Tryz.ntmps8;go_wp2_with fail;rw[← HW.out,← HP.out]
 try rw[← HQ.out]
 refine (awake16 W).mono ?_;rintro e v1 ⟨rfl,hb9⟩;have HKc:=Lib.hid (HKc.out.later hb9);have R:=Lib.hid (R.out.later hb9);have RQ:=Lib.hid (RQ.out.later hb9);clear hb9;clear c0 c1 c2 c3 c4 c5;obtain⟨c0,c1,c2,c3,c4,c5,-⟩:=HKc.out.cj;go_wp2_with fail;refine (smallK_any t Ae Ak Ca ne nk ce ck na ca v1 L.out R.out.tree).mono ?_;rintro e v2 ⟨b9,rfl,hsm,hb9⟩;have HSM:=Lib.hid hsm;clear hsm;have HKc:=Lib.hid (HKc.out.later hb9);have R:=Lib.hid (R.out.later hb9);have RQ:=Lib.hid (RQ.out.later hb9);clear hb9;clear c0 c1 c2 c3 c4 c5
 cases b9 with
 | false=>
  obtain⟨c0,c1,c2,c3,c4,c5,-⟩:=HKc.out.cj;go_wp2_with fail;refine (awake16 _).mono ?_;rintro e v99 ⟨rfl,hb9⟩;have HKc:=Lib.hid (HKc.out.later hb9);clear hb9;go_wp2_with fail;go_ret;exact⟨by first | rfl | simp,HKc.out.below⟩
 | true=>
  have N:=Lib.hid (HSM.out rfl).1;have M:=Lib.hid (HSM.out rfl).2;clear HSM;have HLN:Hid (cs.length=na):=R.out.len;obtain⟨c0,c1,c2,c3,c4,c5,-⟩:=HKc.out.cj;go_wp2_with fail;refine (smallK_any u Be Bk Cb me mk de dk nb cb v2 L2.out RQ.out.tree).mono ?_;rintro e v3 ⟨b9,rfl,hsm,hb9⟩;have HSM:=Lib.hid hsm;clear hsm;have HKc:=Lib.hid (HKc.out.later hb9);have R:=Lib.hid (R.out.later hb9);have RQ:=Lib.hid (RQ.out.later hb9);clear hb9;clear c0 c1 c2 c3 c4 c5
  cases b9 with
  | false=>
   obtain⟨c0,c1,c2,c3,c4,c5,-⟩:=HKc.out.cj;go_wp2_with fail;refine (awake16 _).mono ?_;rintro e v99 ⟨rfl,hb9⟩;have HKc:=Lib.hid (HKc.out.later hb9);clear hb9;go_wp2_with fail;go_ret;exact⟨by first | rfl | simp,HKc.out.below⟩
  | true=>
   have N2:=Lib.hid (HSM.out rfl).1;have M2:=Lib.hid (HSM.out rfl).2;clear HSM;have HLN2:Hid (ds.length=nb):=RQ.out.len;obtain⟨z,hz⟩:∃ z,rightKB (t,cs)=z:=⟨_,rfl⟩;have HZ:=Lib.hid hz;clear hz;obtain⟨z2,hz2⟩:∃ z,rightKB (u,ds)=z:=⟨_,rfl⟩;have HZ2:=Lib.hid hz2;clear hz2;obtain⟨c0,c1,c2,c3,c4,c5,-⟩:=HKc.out.cj;go_wp2_with fail;refine (Cs.refrightK_any t cs Ae Ak Ca ne nk ce ck na ca v3 (by have:=N.out;omega) HLN.out (by have:=M.out;omega) R.out.tree R.out.ctx (by have:=N.out;omega)).mono ?_;rw[HZ.out];rintro e v4 ⟨rfl,hb9⟩;have HKc:=Lib.hid (HKc.out.later hb9);have R:=Lib.hid (R.out.later hb9);have RQ:=Lib.hid (RQ.out.later hb9);clear hb9;clear c0 c1 c2 c3 c4 c5
   cases z with
   | false=>
    obtain⟨c0,c1,c2,c3,c4,c5,-⟩:=HKc.out.cj;go_wp2_with fail;refine (awake16 _).mono ?_;rintro e v99 ⟨rfl,hb9⟩;have HKc:=Lib.hid (HKc.out.later hb9);clear hb9;go_wp2_with fail;go_ret;exact⟨by first | rfl | simp,HKc.out.below⟩
   | true=>
    obtain⟨c0,c1,c2,c3,c4,c5,-⟩:=HKc.out.cj;go_wp2_with fail;refine (Cs.refrightK_any u ds Be Bk Cb me mk de dk nb cb v4 (by have:=N2.out;omega) HLN2.out (by have:=M2.out;omega) RQ.out.tree RQ.out.ctx (by have:=N2.out;omega)).mono ?_;rw[HZ2.out];rintro e v5 ⟨rfl,hb9⟩;have HKc:=Lib.hid (HKc.out.later hb9);have R:=Lib.hid (R.out.later hb9);have RQ:=Lib.hid (RQ.out.later hb9);clear hb9;clear c0 c1 c2 c3 c4 c5
    cases z2 with
    | false=>
     obtain⟨c0,c1,c2,c3,c4,c5,-⟩:=HKc.out.cj;go_wp2_with fail;refine (awake16 _).mono ?_;rintro e v99 ⟨rfl,hb9⟩;have HKc:=Lib.hid (HKc.out.later hb9);clear hb9;go_wp2_with fail;go_ret;exact⟨by first | rfl | simp,HKc.out.below⟩
    | true=>
     have HKR:Hid (RK (t,cs)):=rightKB_iff.1 HZ.out;obtain⟨sb,hsb⟩:∃ s,s=causB (t,cs):=⟨_,rfl⟩
     have HLE:Hid (sb.length≤5000):=by rw[hsb];exact known_le HKR.out N.out HLN.out M.out
     obtain⟨m7,hm⟩:∃ m,m=sb.length:=⟨_,rfl⟩;have Hsb:=Lib.hid hsb;have Hm7:=Lib.hid hm;clear hsb hm;obtain⟨c0,c1,c2,c3,c4,c5,-⟩:=HKc.out.cj;go_wp2_with fail;refine (bytes_any t cs Ae Ak Ca ne nk ce ck na ca v5 true HZ.out (by have:=N.out;omega) HLN.out (by have:=M.out;omega) R.out.tree R.out.ctx).mono ?_;unfold BytesP;rw[← Hsb.out];rintro e v6 ⟨hb9,⟨h,_⟩ | ⟨_,h,_⟩ | ⟨_,_,A7,c7,rfl,ho9⟩⟩
     ·cases h
     ·exact absurd h (by have:=HLE.out;omega)
     rw[← Hm7.out]at ho9 ⊢;have HKc:=Lib.hid (HKc.out.later hb9);have R:=Lib.hid (R.out.later hb9);have RQ:=Lib.hid (RQ.out.later hb9);clear hb9;have RB:Hid (Rd v6 v6.heap.size 1 A7 m7 c7 (u8s sb)):=ho9.rd;clear ho9 HLE;clear c0 c1 c2 c3 c4 c5;have HKR2:Hid (RK (u,ds)):=rightKB_iff.1 HZ2.out;obtain⟨sc,hsb⟩:∃ s,s=causB (u,ds):=⟨_,rfl⟩
     have HLE:Hid (sc.length≤5000):=by rw[hsb];exact known_le HKR2.out N2.out HLN2.out M2.out
     obtain⟨n7,hm⟩:∃ m,m=sc.length:=⟨_,rfl⟩;have Hsc:=Lib.hid hsb;have Hn7:=Lib.hid hm;clear hsb hm;obtain⟨c0,c1,c2,c3,c4,c5,-⟩:=HKc.out.cj;go_wp2_with fail;refine (bytes_any u ds Be Bk Cb me mk de dk nb cb v6 true HZ2.out (by have:=N2.out;omega) HLN2.out (by have:=M2.out;omega) RQ.out.tree RQ.out.ctx).mono ?_;unfold BytesP;rw[← Hsc.out];rintro e v7 ⟨hb9,⟨h,_⟩ | ⟨_,h,_⟩ | ⟨_,_,B7,d7,rfl,ho9⟩⟩
     ·cases h
     ·exact absurd h (by have:=HLE.out;omega)
     rw[← Hn7.out]at ho9 ⊢;have HKc:=Lib.hid (HKc.out.later hb9);have R:=Lib.hid (R.out.later hb9);have RQ:=Lib.hid (RQ.out.later hb9);have RB:=Lib.hid (RB.out.later hb9);clear hb9;have RC:Hid (Rd v7 v7.heap.size 1 B7 n7 d7 (u8s sc)):=ho9.rd;clear ho9 HLE;clear c0 c1 c2 c3 c4 c5;obtain⟨y,hy⟩:∃ y,decide ((t,cs)=(u,ds))=y:=⟨_,rfl⟩;have HY:=Lib.hid hy
     have hE:((strOf sb).toList==(strOf sc).toList)=y:=by
      rw[← hy,Bool.eq_iff_iff,Codec.str_beq,decide_eq_true_iff,← caus_unlike,← Hsb.out,← Hsc.out]
     have hyy:(y==y)=true:=by simp
     clear hy;obtain⟨c0,c1,c2,c3,c4,c5,-⟩:=HKc.out.cj;go_wp2_with fail;clear c0 c1 c2 c3 c4 c5;refine wp_region_held_drew (S:=fun W=>W.cell? ⟨p,0,none⟩=some (.slice Ae ne ce)∧W.cell? ⟨p,1,none⟩=some (.slice Ak nk ck)∧W.cell? ⟨p,2,none⟩=some (.slice Ca na ca)∧W.cell? ⟨q,0,none⟩=some (.slice Be me de)∧W.cell? ⟨q,1,none⟩=some (.slice Bk mk dk)∧W.cell? ⟨q,2,none⟩=some (.slice Cb nb cb)∧(convert 25 9 (.slice A7 m7 c7)).run Tryz.prog W = .ok (.string (strOf sb)) W∧(convert 25 9 (.slice B7 n7 d7)).run Tryz.prog W = .ok (.string (strOf sc)) W) (by kernel_rfl) (by have h9:=HKc.out.drew;exact⟨h9.c0,h9.c1,h9.c2,h9.c3,h9.c4,h9.c5,run_str (P:=Tryz.prog) v7.drew 25 9 5 Tryz.underlying25 Tryz.underlying5 Tryz.underlying9 (RB.out.later (bel_drewN (Below.refl _ _) 1)),run_str (P:=Tryz.prog) v7.drew 25 9 5 Tryz.underlying25 Tryz.underlying5 Tryz.underlying9 (RC.out.later (bel_drewN (Below.refl _ _) 1))⟩) (fun hHeld=>?_)
     obtain⟨v8,hv8⟩:∃ v,v=v7.drew:=⟨_,rfl⟩
     have hb9:Below v7.heap.size v7 v8:=by rw[hv8];exact (Below.refl _ _).drew
     have HKc:=Lib.hid (HKc.out.later hb9);have R:=Lib.hid (R.out.later hb9);have RQ:=Lib.hid (RQ.out.later hb9);have RB:=Lib.hid (RB.out.later hb9);have RC:=Lib.hid (RC.out.later hb9);clear hb9;rw[← hv8]at hHeld ⊢;clear hv8;refine Tk 0 42 ?_;refine Tk 1 43 ?_;refine Tk 2 44 ?_;refine Tk 3 45 ?_;refine Tk 4 46 ?_;refine Tk 5 47 ?_;refine Tk 6 48 ?_;refine Tk 7 49 ?_;refine Tk 8 50 ?_;refine Tk 9 51 ?_;refine Tk 10 52 ?_;refine Tk 11 53 ?_;refine Tk 12 54 ?_;refine Tk 13 55 ?_;refine Tc 14 (fun K hK=>?_);go_simp;(go_at_call 27;refine (refsameK_any t u cs ds Ae Ak Ca Be Bk Cb ne nk ce ck na ca me mk de dk nb cb v8 y HY.out (by have:=N.out;omega) HLN.out (by have:=M.out;omega) R.out.tree R.out.ctx HLN2.out RQ.out.tree RQ.out.ctx).mono ?_);rintro e v9 ⟨rfl,hb9⟩;have HKc:=Lib.hid (HKc.out.later hb9);have R:=Lib.hid (R.out.later hb9)
     have RQ:=Lib.hid (RQ.out.later hb9);have RB:=Lib.hid (RB.out.later hb9);have RC:=Lib.hid (RC.out.later hb9);clear hb9;clear hHeld;refine Th hK ?_ (fun hHeld=>?_)
     ·exact⟨HKc.out.c0,HKc.out.c1,HKc.out.c2,HKc.out.c3,HKc.out.c4,HKc.out.c5,run_str (P:=Tryz.prog) v9 25 9 5 Tryz.underlying25 Tryz.underlying5 Tryz.underlying9 RB.out,run_str (P:=Tryz.prog) v9 25 9 5 Tryz.underlying25 Tryz.underlying5 Tryz.underlying9 RC.out⟩
     clear hK K;refine Tk 15 57 ?_;refine Tk 16 58 ?_;refine Tk 17 4 ?_;refine wpAnyH_done (by kernel_rfl) ?_ _;clear hHeld;go_wp2_with fail;go_ret;exact⟨by first | rfl | simp,HKc.out.below⟩
set_option maxRecDepth 100000 in
theorem lifted (os:Os) (started:os.Started) (H:Type) (enc:TypeId×Value→H) :
  ReturnsInHanded {} Tryz.checked os 8 .any (Rows.packUnlikeSpec.pre6 enc Tryz.prog Tryz.f8 Rows.packUnlikeRow.domain false) (Rows.packUnlikeSpec.post enc Tryz.prog Tryz.f8 false true false false):=by
 refine returnsInHanded_of_change_sized (C:=Tryz.checked) own started (by kernel_rfl) Tryz.func8
  (ChangeSpec.witness6 (enc:=enc) (C:=Tryz.checked) false ⟨#[],#[.agg #[.slice none 0 0,.slice none 0 0,.slice none 0 0],.agg #[.slice none 0 0,.slice none 0 0,.slice none 0 0]],[]⟩ 8 (by kernel_rfl) (by kernel_rfl) (by kernel_rfl) (by kernel_rfl)) ?_
 intro W base args ds gs before hval0 hW _ hsz0 _;have hval:∀ (j:Nat) t v,Tryz.f8.params[j]?=some t→args[j]?=some v→Value.okWide Tryz.prog W .any base t v:=hval0;have hW':=hW;obtain⟨p,q,hA0,hV,rfl,hfz,hnd⟩:=hW;have hA:DataW.TrodAll enc Tryz.prog W 0 (fun _=>true) true Tryz.f8.params.toList args.toList ds p:=hA0;rw[Tryz.params8]at hA hval;obtain⟨v0,v1,d0,d1,p0,p1,rfl,rfl,rfl,h0,h1⟩:=trodAll_two hA;obtain⟨rfl,rfl⟩:=trodVars_none hV;have hsz:(DataW.weightsEach Tryz.prog (37::37::_) (d0::d1::_)).all (· ≤ reachBytes)=true:=hsz0;obtain⟨hw0,hsz⟩:=Tr.weights_head hsz;obtain⟨hw1,hsz⟩:=Tr.weights_head hsz;obtain⟨t0,s0,A0,B0,C0,n0,m0,ne0,nk0,nc0,nd0,rfl,hr0,hl0⟩:=Cs.cauV_of_trod (hval 0 37 v0 rfl rfl) h0 hw0
 obtain⟨t1,s1,A1,B1,C1,n1,m1,ne1,nk1,nc1,nd1,rfl,hr1,hl1⟩:=Cs.cauV_of_trod (hval 1 37 v1 rfl rfl) h1 hw1;refine (walk_any t0 s0 A0 B0 C0 n0 m0 ne0 nk0 nc0 nd0 t1 s1 A1 B1 C1 n1 m1 ne1 nk1 nc1 nd1 W hr0 hl0 hr1 hl1).mono fun e W' ⟨he,hb⟩=>?_;subst he;exact⟨_,rfl,law_post hW' (by kernel_rfl) rfl rfl rfl hb⟩
theorem proved:Rows.PackUnlikeSaid:=
 OpenClaim.holds_of_wide 8 Tryz.f8 rfl rfl rfl rfl rfl rfl rfl ⟨rfl,rfl,rfl,rfl,rfl⟩ rfl rfl rfl rfl rfl (by kernel_rfl) Tryz.func8 (by kernel_rfl)
  (of_decide_eq_true (by kernel_rfl)) (by unfold Func.isWrapper;first | (rw[if_pos (by decide +kernel)];kernel_rfl) | (rw[if_neg (by decide +kernel)];exact⟨rfl,rfl⟩))
  (fun os started H enc _=>lifted os started H enc)
#print axioms proved
end lawPackUnlike
end Go.Proofs.YtcbpgemiffmieaaGreat
