/- Proved: the law OrmapKeys answers true for every tree that can be handed in, and leaves its arguments as they were. Conditions: none. -/
import Derived.Test.YtjpcechcefhcfaaGreatG00
import Derived.Test.YtjpcechcefhcfaaGreatG170
import Derived.Test.YtjpcechcefhcfaaGreatG50
import Derived.Test.YtjpcechcefhcfaaGreatSetRef
import Derived.Test.YtjpcechcefhcfaaGreatG1660
open Go.ChangeShapes Go.WideShapes Go.ChangeAt Go.RowKit
namespace Go.Proofs.YtjpcechcefhcfaaGreat
namespace lawOrmapKeys
open Tr Cx Cs Sp Rw Classical
theorem boxL (w:World) (Ae Ak:Option Addr) (ne nk ce ck:Nat)  : ∃ (W:World) (p:Nat),Hid (W=(w.alloc (.cells #[.slice Ae ne ce,.slice Ak nk ck] 25)))∧Hid (p=w.heap.size) ∧  Hid (Kept [(⟨p,0,none⟩,.slice Ae ne ce),(⟨p,1,none⟩,.slice Ak nk ck)] w W):=by
 refine⟨_,_,rfl,rfl,?_⟩;have h0:=Kept.nil_of (show Below w.heap.size w ((w.alloc (.cells #[.slice Ae ne ce,.slice Ak nk ck] 25))) from (Below.refl _ _).alloc (Nat.le_refl _) _)
 refine ((h0).cons_of ?_).cons_of ?_ <;> go_simp
set_option maxRecDepth 100000 in
set_option maxHeartbeats 4000000 in
theorem walk_any (t:T) (Ae Ak:Option Addr) (ne nk ce ck:Nat)  (w:World) (hr:RdT w w.heap.size t ⟨Ae,ne,ce⟩ ⟨Ak,nk,ck⟩) (hl:LenT reachBytes t)  :
  Calls Tryz.prog 5 #[.agg #[.slice Ae ne ce,.slice Ak nk ck]] w fun e w'=>e = .returned (.bool true)∧Below w.heap.size w w':=by
 obtain⟨W,p,HW,HP,HKc⟩:=boxL w Ae Ak ne nk ce ck ;have HR0:=Lib.hid hr;have R:=Lib.hid (RdT.later hr HKc.out.below);have L:=Lib.hid hl;clear hr hl;have c0:=HKc.out.c0;have c1:=HKc.out.c1;go_enter Tryz.func5,Tryz.ntmps5;go_wp2_with fail;rw[← HW.out,← HP.out];refine (awake14 W).mono ?_;rintro e v1 ⟨rfl,hb9⟩;have HKc:=Lib.hid (HKc.out.later hb9);have R:=Lib.hid (RdT.later R.out hb9);clear hb9;clear c0 c1;have c0:=HKc.out.c0;have c1:=HKc.out.c1;go_wp2_with fail;refine (small_tree t Ae Ak ne nk ce ck v1 L.out R.out).mono ?_;rintro e v2 ⟨b9,rfl,hsm,hb9⟩;have HKc:=Lib.hid (HKc.out.later hb9);have R:=Lib.hid (RdT.later R.out hb9);clear hb9;clear c0 c1
 cases b9 with
 | false=>
  clear hsm;go_wp2_with fail;refine (awake14 _).mono ?_;rintro e v99 ⟨rfl,hb9⟩;have HKc:=Lib.hid (HKc.out.later hb9);clear hb9;go_wp2_with fail;go_ret;exact⟨by first | rfl | simp,HKc.out.below⟩
 | true=>
  have N:Hid (nodes t≤60):=hsm rfl;clear hsm
  have HNK:Hid (nk≤60):=by
   have h:=R.out;rw[← T.eta t]at h;have h2:=nodes_es t.es t.ks;rw[T.eta]at h2;have h3:=N.out;have h4:=(rd_lens h).2;unfold Hid;omega
  obtain⟨y,hy9⟩:∃ y,Tr.rightB 5 t=y:=⟨_,rfl⟩;have HY:=Lib.hid hy9;clear hy9;have c0:=HKc.out.c0;have c1:=HKc.out.c1;go_wp2_with fail;refine (refrightT_any t Ae Ak ne nk ce ck v2 L.out R.out).mono ?_;rw[HY.out];rintro e v3 ⟨rfl,hb9⟩;have HKc:=Lib.hid (HKc.out.later hb9);have R:=Lib.hid (RdT.later R.out hb9);clear hb9;clear c0 c1
  cases y with
  | false=>
   have c0:=HKc.out.c0;have c1:=HKc.out.c1;go_wp2_with fail;refine (mkeys_any t Ae Ak ne nk ce ck v3 false HY.out L.out (by have:=N.out;omega) R.out).mono ?_;rintro e v4 ⟨Vl,vq,vc,rfl,hq,hro,hb9⟩;have HKc:=Lib.hid (HKc.out.later hb9);have R:=Lib.hid (RdT.later R.out hb9);clear hb9;clear c0 c1;have HQV:Hid (vq=0):=hq.out;have RV:Hid (Rd v4 v4.heap.size 1 Vl vq vc (strs [])):=hro.out;clear hro hq;have c0:=HKc.out.c0;have c1:=HKc.out.c1;go_wp2_with fail;refine (refalike_any [] [] vq 0 Vl none vc 0 v4 (by have:=HQV.out;omega) RV.out (Rd.nil _) true (decide_eq_true rfl)).mono ?_;rintro e v5 ⟨rfl,hb9⟩;have HKc:=Lib.hid (HKc.out.later hb9);have R:=Lib.hid (RdT.later R.out hb9);have RV:=Lib.hid (RV.out.later hb9);clear hb9;clear c0 c1;go_wp2_with fail;go_ret;exact⟨by first | rfl | simp,HKc.out.below⟩
  | true=>
   have c0:=HKc.out.c0;have c1:=HKc.out.c1;go_wp2_with fail;refine (refkeys_any t Ae Ak ne nk ce ck v3 (by have:=N.out;omega) R.out).mono ?_;rintro e v4 ⟨Wl,wc,rfl,hro,hb9⟩;have HKc:=Lib.hid (HKc.out.later hb9);have R:=Lib.hid (RdT.later R.out hb9);clear hb9;clear c0 c1;have RW:=Lib.hid hro.out;clear hro;have c0:=HKc.out.c0;have c1:=HKc.out.c1;go_wp2_with fail;refine (mkeys_any t Ae Ak ne nk ce ck v4 true HY.out L.out (by have:=N.out;omega) R.out).mono ?_;rintro e v5 ⟨Vl,vq,vc,rfl,hq,hro,hb9⟩;have HKc:=Lib.hid (HKc.out.later hb9);have R:=Lib.hid (RdT.later R.out hb9);have RW:=Lib.hid (RW.out.later hb9);clear hb9;clear c0 c1;have HQV:Hid (vq=nk):=hq.out;have RV:Hid (Rd v5 v5.heap.size 1 Vl vq vc (strs (keysOf t.ks))):=hro.out;clear hro hq;have c0:=HKc.out.c0;have c1:=HKc.out.c1;go_wp2_with fail;refine (refalike_any (keysOf t.ks) (keysOf t.ks) vq nk Vl Wl vc wc v5 (by have:=HQV.out;have:=HNK.out;omega) RV.out RW.out true (decide_eq_true rfl)).mono ?_
   rintro e v6 ⟨rfl,hb9⟩;have HKc:=Lib.hid (HKc.out.later hb9);have R:=Lib.hid (RdT.later R.out hb9);have RW:=Lib.hid (RW.out.later hb9);have RV:=Lib.hid (RV.out.later hb9);clear hb9;clear c0 c1;go_wp2_with fail;go_ret;exact⟨by first | rfl | simp,HKc.out.below⟩
set_option maxRecDepth 100000 in
theorem lifted (os:Os) (started:os.Started) (H:Type) (enc:TypeId×Value→H) :
  ReturnsInHanded {} Tryz.checked os 5 .any (Rows.ormapKeysSpec.pre6 enc Tryz.prog Tryz.f5 Rows.ormapKeysRow.domain false) (Rows.ormapKeysSpec.post enc Tryz.prog Tryz.f5 false true false false):=by
 refine returnsInHanded_of_change_sized (C:=Tryz.checked) own started (by kernel_rfl) Tryz.func5
  (ChangeSpec.witness6 (enc:=enc) (C:=Tryz.checked) false ⟨#[],#[.agg #[.slice none 0 0,.slice none 0 0]],[]⟩ 8 (by kernel_rfl) (by kernel_rfl) (by kernel_rfl) (by kernel_rfl)) ?_
 intro W base args ds gs before hval0 hW _ hsz0 _;have hval:∀ (j:Nat) t v,Tryz.f5.params[j]?=some t→args[j]?=some v→Value.okWide Tryz.prog W .any base t v:=hval0;have hW':=hW;obtain⟨p,q,hA0,hV,rfl,hfz,hnd⟩:=hW;have hA:DataW.TrodAll enc Tryz.prog W 0 (fun _=>true) true Tryz.f5.params.toList args.toList ds p:=hA0;rw[Tryz.params5]at hA hval;obtain⟨v0,d0,rfl,rfl,h0⟩:=trodAll_one hA;obtain⟨rfl,rfl⟩:=trodVars_none hV;have hsz:(DataW.weightsEach Tryz.prog (25::_) (d0::_)).all (· ≤ reachBytes)=true:=hsz0;obtain⟨hw0,hsz⟩:=Tr.weights_head hsz;obtain⟨t0,ae0,ak0,ne0,nk0,ce0,ck0,rfl,hr0,hl0⟩:=Tr.treeV_of_trod (hval 0 25 v0 rfl rfl) h0 hw0;refine (walk_any t0 ae0 ak0 ne0 nk0 ce0 ck0  W hr0 hl0 ).mono fun e W' ⟨he,hb⟩=>?_
 subst he;exact⟨_,rfl,law_post hW' (by kernel_rfl) rfl rfl rfl hb⟩
theorem proved:Rows.OrmapKeysSaid:=
 OpenClaim.holds_of_wide 5 Tryz.f5 rfl rfl rfl rfl rfl rfl rfl ⟨rfl,rfl,rfl,rfl,rfl⟩ rfl rfl rfl rfl rfl (by kernel_rfl) Tryz.func5 (by kernel_rfl)
  (of_decide_eq_true (by kernel_rfl)) (by unfold Func.isWrapper;first | (rw[if_pos (by decide +kernel)];kernel_rfl) | (rw[if_neg (by decide +kernel)];exact⟨rfl,rfl⟩))
  (fun os started H enc _=>lifted os started H enc)
#print axioms proved
end lawOrmapKeys
end Go.Proofs.YtjpcechcefhcfaaGreat
