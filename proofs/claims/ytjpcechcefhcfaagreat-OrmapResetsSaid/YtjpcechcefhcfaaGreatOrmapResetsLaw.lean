/- Proved: the law OrmapResets answers true for every tree, every dot that can be handed in, and leaves its arguments as they were. Conditions: none. -/
import Derived.Test.YtjpcechcefhcfaaGreatG00
import Derived.Test.YtjpcechcefhcfaaGreatG170
import Derived.Test.YtjpcechcefhcfaaGreatG140
import Derived.Test.YtjpcechcefhcfaaGreatG1220
import Derived.Test.YtjpcechcefhcfaaGreatG1660
open Go.ChangeShapes Go.WideShapes Go.ChangeAt Go.RowKit
namespace Go.Proofs.YtjpcechcefhcfaaGreat
namespace lawOrmapResets
open Tr Cx Cs Sp Rw Classical
theorem boxL (w:World) (Ae Ak:Option Addr) (ne nk ce ck:Nat) (a n:Int):∃ (W:World) (p q:Nat),Hid (W=((w.alloc (.cells #[.slice Ae ne ce,.slice Ak nk ck] 25)).alloc (.cells #[.int .i64 a,.int .i64 n] 47)))∧Hid (p=w.heap.size)∧Hid (q=p+1)∧Hid (Kept [(⟨p,0,none⟩,.slice Ae ne ce),(⟨p,1,none⟩,.slice Ak nk ck),(⟨q,0,none⟩,.int .i64 a),(⟨q,1,none⟩,.int .i64 n)] w W):=by
 refine⟨_,_,_,rfl,rfl,rfl,?_⟩;have h0:=Kept.nil_of (show Below w.heap.size w (((w.alloc (.cells #[.slice Ae ne ce,.slice Ak nk ck] 25)).alloc (.cells #[.int .i64 a,.int .i64 n] 47))) from ((Below.refl _ _).alloc (Nat.le_refl _) _).alloc (by simp) _)
 refine ((((h0).cons_of ?_).cons_of ?_).cons_of ?_).cons_of ?_ <;> go_simp
set_option maxRecDepth 100000 in
set_option maxHeartbeats 4000000 in
theorem walk_any (t:T) (Ae Ak:Option Addr) (ne nk ce ck:Nat) (a n:Int) (w:World) (hr:RdT w w.heap.size t ⟨Ae,ne,ce⟩ ⟨Ak,nk,ck⟩) (hl:LenT reachBytes t)  :
  Calls Tryz.prog 4 #[.agg #[.slice Ae ne ce,.slice Ak nk ck],.agg #[.int .i64 a,.int .i64 n]] w fun e w'=>e = .returned (.bool true)∧Below w.heap.size w w':=by
 obtain⟨W,p,q,HW,HP,HQ,HKc⟩:=boxL w Ae Ak ne nk ce ck a n;have HR0:=Lib.hid hr;have R:=Lib.hid (RdT.later hr HKc.out.below);have L:=Lib.hid hl;clear hr hl;obtain⟨c0,c1,c2,c3,-⟩:=HKc.out.cj;go_enter Tryz.func4,Tryz.ntmps4;go_wp2_with fail;rw[← HW.out,← HP.out]
 try rw[← HQ.out]
 refine (awake14 W).mono ?_;rintro e v1 ⟨rfl,hb9⟩;have HKc:=Lib.hid (HKc.out.later hb9);have R:=Lib.hid (RdT.later R.out hb9);clear hb9;clear c0 c1 c2 c3;obtain⟨c0,c1,c2,c3,-⟩:=HKc.out.cj;go_wp2_with fail;refine (small_tree t Ae Ak ne nk ce ck v1 L.out R.out).mono ?_;rintro e v2 ⟨b9,rfl,hsm,hb9⟩;have HKc:=Lib.hid (HKc.out.later hb9);have R:=Lib.hid (RdT.later R.out hb9);clear hb9;clear c0 c1 c2 c3
 cases b9 with
 | false=>
  clear hsm;go_wp2_with fail;refine (awake14 _).mono ?_;rintro e v99 ⟨rfl,hb9⟩;have HKc:=Lib.hid (HKc.out.later hb9);clear hb9;go_wp2_with fail;go_ret;exact⟨by first | rfl | simp,HKc.out.below⟩
 | true=>
  have N:Hid (nodes t≤60):=hsm rfl;clear hsm;obtain⟨c0,c1,c2,c3,-⟩:=HKc.out.cj;go_wp2_with fail;refine (mreset_any t Ae Ak ne nk ce ck a n v2 L.out (by have:=N.out;omega) R.out).mono ?_;rintro e v3 ⟨kx,zx,Xe,xe1,xe2,Xk,xk1,xk2,Xc,xc1,xc2,rfl,how,hz,hb9⟩;have HKc:=Lib.hid (HKc.out.later hb9);have R:=Lib.hid (RdT.later R.out hb9);clear hb9;clear c0 c1 c2 c3;have RX:=Lib.hid (RdP.of_own how.out);have ZX:=Lib.hid hz.out;clear how hz;obtain⟨g,hg⟩:∃ g,g=v3.heap.size:=⟨_,rfl⟩;obtain⟨v4,hv4⟩:∃ W,W=v3.alloc (.cells #[.slice Xe xe1 xe2,.slice Xk xk1 xk2,.slice Xc xc1 xc2] 29):=⟨_,rfl⟩
  have hb9:Below v3.heap.size v3 v4:=by rw[hv4];exact Dt.box_below _ _ _
  have b0:v4.cell? ⟨g,0,none⟩=some (.slice Xe xe1 xe2):=by rw[hv4,hg];go_simp
  have b1:v4.cell? ⟨g,1,none⟩=some (.slice Xk xk1 xk2):=by rw[hv4,hg];go_simp
  have b2:v4.cell? ⟨g,2,none⟩=some (.slice Xc xc1 xc2):=by rw[hv4,hg];go_simp
  have HKc:=Lib.hid (HKc.out.later hb9);have R:=Lib.hid (RdT.later R.out hb9);have RX:=Lib.hid (RX.out.later hb9);clear hb9;have HKc:=Lib.hid (((HKc.out.cons_of b2).cons_of b1).cons_of b0);have Hg:=Lib.hid hg;have Hv4:=Lib.hid hv4;clear hg hv4 b0 b1 b2;obtain⟨y,hy9⟩:∃ y,checkB t a n=y:=⟨_,rfl⟩;have HY:=Lib.hid hy9;clear hy9;obtain⟨c0,c1,c2,c3,c4,c5,c6,-⟩:=HKc.out.cj;rw[Hv4.out]at c0 c1 c2 c3 c4 c5 c6;rw[Hg.out]at c0 c1 c2;go_wp2_with fail;rw[← Hg.out,← Hv4.out];refine (refcheck_any t Ae Ak ne nk ce ck a n v4 y HY.out L.out (by have:=N.out;omega) R.out).mono ?_;rintro e v5 ⟨rfl,hb9⟩;have HKc:=Lib.hid (HKc.out.later hb9);have R:=Lib.hid (RdT.later R.out hb9);have RX:=Lib.hid (RX.out.later hb9);clear hb9;clear c0 c1 c2 c3 c4 c5 c6
  cases y with
  | false=>
   obtain⟨hz1,rfl⟩:=ZX.out.2 (HY.out)
   obtain rfl:zx=1:=by rw[hz1]
   clear hz1;obtain⟨c0,c1,c2,c3,c4,c5,c6,-⟩:=HKc.out.cj;go_wp2_with fail;refine (refsameK_any noneK.1 none_ noneK.2 [] Xe Xk Xc none none none xe1 xk1 xe2 xk2 xc1 xc2 0 0 0 0 0 0 v5 true (decide_eq_true rfl) (by show nodes none_≤_;rw[nodes_none];omega) RX.out.len (by have h:=RX.out.len;have h2:noneK.2.length=0:=rfl;dsimp only at h;omega) RX.out.tree RX.out.ctx rfl (RdP.zero _).tree (RdP.zero _).ctx).mono ?_;rintro e v6 ⟨rfl,hb9⟩;have HKc:=Lib.hid (HKc.out.later hb9);have R:=Lib.hid (RdT.later R.out hb9);have RX:=Lib.hid (RX.out.later hb9);clear hb9;clear c0 c1 c2 c3 c4 c5 c6;go_wp2_with fail;go_ret;exact⟨by first | rfl | simp,HKc.out.below⟩
  | true=>
   have HCK:Hid (checkB t a n=true):=HY.out;have HT:Hid (RightT 5 t):=(check_iff.1 HCK.out).1;have HD:Hid (Dt.rightB a n=true):=(check_iff.1 HCK.out).2.1;obtain⟨u,hu1,hu2⟩:=some_of HT.out L.out (by have:=N.out;omega) R.out;obtain⟨m9,hm9⟩:∃ m9,u.length=m9:=⟨_,rfl⟩;have HU:Hid (OfC (dl t) u∧u.length=m9∧m9≤240):=⟨hu1,hm9,by have:=N.out;omega⟩;clear hu1 hu2 hm9;obtain⟨rfl,hk1,hna,u2,hu2,hpv⟩:=ZX.out.1 (HY.out);have KX:Hid (kx.1=none_):=hk1
   have BX:Hid (xc1≤244):=by have:=N.out;unfold Hid;omega
   have VX:Hid (PutC uniF u (oneC a n) kx.2):=by unfold Hid;rw[← hu2.eq HU.out.1];exact hpv
   clear hk1 hna hu2 hpv;obtain⟨c0,c1,c2,c3,c4,c5,c6,-⟩:=HKc.out.cj;go_wp2_with fail;clear c0 c1 c2 c3 c4 c5 c6;refine wp_region_held_drew (S:=Conj _) (by kernel_rfl) HKc.out.drew.cj (fun hHeld=>?_);obtain⟨v6,hv6⟩:∃ v,v=v5.drew:=⟨_,rfl⟩
   have hb9:Below v5.heap.size v5 v6:=by rw[hv6];exact (Below.refl _ _).drew
   have HKc:=Lib.hid (HKc.out.later hb9);have R:=Lib.hid (RdT.later R.out hb9);have RX:=Lib.hid (RX.out.later hb9);clear hb9;rw[← hv6]at hHeld ⊢;clear hv6;refine Tk 0 32 ?_;refine Tk 1 33 ?_;refine Tk 2 34 ?_;refine Tk 3 35 ?_;refine Tk 4 36 ?_;refine Tk 5 37 ?_;refine Tc 6 (fun K hK=>?_);go_simp;(go_at_call 22;refine (refdots_any t Ae Ak ne nk ce ck v6 (by have:=N.out;omega) R.out (good_dl HT.out) u HU.out.1 m9 HU.out.2.1 (by have:=HU.out.2.2;omega)).mono ?_);rintro e v7 ⟨B9,d9,rfl,hru,hb9⟩;have RU:=Lib.hid hru;clear hru;have HKc:=Lib.hid (HKc.out.later hb9);have R:=Lib.hid (RdT.later R.out hb9);have RX:=Lib.hid (RX.out.later hb9);clear hb9;clear hHeld;refine Th hK ?_ (fun hHeld=>?_)
   ·exact HKc.out.cj
   clear hK K;refine Tc 7 (fun K hK=>?_);go_simp;(go_at_call 21;refine (refgone_any a n u kx.2 B9 m9 d9 xc1 v7 HU.out.2.1 (by have:=HU.out.2.2;omega) RU.out HU.out.1.right HD.out VX.out RX.out.len (by have:=BX.out;omega)).mono ?_);rintro e v8 ⟨Ye,ye1,ye2,Yk,yk1,yk2,Yc,yc1,yc2,rfl,how,hb9⟩;have RY:=Lib.hid (RdP.of_own how);clear how;have HKc:=Lib.hid (HKc.out.later hb9);have R:=Lib.hid (RdT.later R.out hb9);have RX:=Lib.hid (RX.out.later hb9);have RU:=Lib.hid (RU.out.later hb9);clear hb9;clear hHeld;refine Th hK ?_ (fun hHeld=>?_)
   ·exact HKc.out.cj
   clear hK K;refine Tc 8 (fun K hK=>?_);go_simp;(go_at_call 15;refine (refsameK_any kx.1 none_ kx.2 kx.2 Xe Xk Xc Ye Yk Yc xe1 xk1 xe2 xk2 xc1 xc2 ye1 yk1 ye2 yk2 yc1 yc2 v8 true (decide_eq_true (by rw[KX.out])) (by rw[KX.out,nodes_none];omega) RX.out.len (by have:=BX.out;omega) RX.out.tree RX.out.ctx RY.out.len RY.out.tree RY.out.ctx).mono ?_);rintro e v9 ⟨rfl,hb9⟩;have HKc:=Lib.hid (HKc.out.later hb9);have R:=Lib.hid (RdT.later R.out hb9);have RX:=Lib.hid (RX.out.later hb9);have RU:=Lib.hid (RU.out.later hb9);have RY:=Lib.hid (RY.out.later hb9);clear hb9;clear hHeld;refine Th hK ?_ (fun hHeld=>?_)
   ·exact HKc.out.cj
   clear hK K;refine Tk 9 41 ?_;refine Tk 10 4 ?_;refine wpAnyH_done (by kernel_rfl) ?_ _;clear hHeld;go_wp2_with fail;go_ret;exact⟨by first | rfl | simp,HKc.out.below⟩
set_option maxRecDepth 100000 in
theorem lifted (os:Os) (started:os.Started) (H:Type) (enc:TypeId×Value→H) :
  ReturnsInHanded {} Tryz.checked os 4 .any (Rows.ormapResetsSpec.pre6 enc Tryz.prog Tryz.f4 Rows.ormapResetsRow.domain false) (Rows.ormapResetsSpec.post enc Tryz.prog Tryz.f4 false true false false):=by
 refine returnsInHanded_of_change_sized (C:=Tryz.checked) own started (by kernel_rfl) Tryz.func4
  (ChangeSpec.witness6 (enc:=enc) (C:=Tryz.checked) false ⟨#[],#[.agg #[.slice none 0 0,.slice none 0 0],.agg #[.int .i64 0,.int .i64 0]],[]⟩ 8 (by kernel_rfl) (by kernel_rfl) (by kernel_rfl) (by kernel_rfl)) ?_
 intro W base args ds gs before hval0 hW _ hsz0 _;have hval:∀ (j:Nat) t v,Tryz.f4.params[j]?=some t→args[j]?=some v→Value.okWide Tryz.prog W .any base t v:=hval0;have hW':=hW;obtain⟨p,q,hA0,hV,rfl,hfz,hnd⟩:=hW;have hA:DataW.TrodAll enc Tryz.prog W 0 (fun _=>true) true Tryz.f4.params.toList args.toList ds p:=hA0;rw[Tryz.params4]at hA hval;obtain⟨v0,v1,d0,d1,p0,p1,rfl,rfl,rfl,h0,h1⟩:=trodAll_two hA;obtain⟨rfl,rfl⟩:=trodVars_none hV;have hsz:(DataW.weightsEach Tryz.prog (25::47::_) (d0::d1::_)).all (· ≤ reachBytes)=true:=hsz0;obtain⟨hw0,hsz⟩:=Tr.weights_head hsz;obtain⟨t0,ae0,ak0,ne0,nk0,ce0,ck0,rfl,hr0,hl0⟩:=Tr.treeV_of_trod (hval 0 25 v0 rfl rfl) h0 hw0
 obtain⟨da1,dn1,rfl,_,_⟩:=Dt.dot_of_trod (hval 1 47 v1 rfl rfl) h1;refine (walk_any t0 ae0 ak0 ne0 nk0 ce0 ck0 da1 dn1 W hr0 hl0 ).mono fun e W' ⟨he,hb⟩=>?_;subst he;exact⟨_,rfl,law_post hW' (by kernel_rfl) rfl rfl rfl hb⟩
theorem proved:Rows.OrmapResetsSaid:=
 OpenClaim.holds_of_wide 4 Tryz.f4 rfl rfl rfl rfl rfl rfl rfl ⟨rfl,rfl,rfl,rfl,rfl⟩ rfl rfl rfl rfl rfl (by kernel_rfl) Tryz.func4 (by kernel_rfl)
  (of_decide_eq_true (by kernel_rfl)) (by unfold Func.isWrapper;first | (rw[if_pos (by decide +kernel)];kernel_rfl) | (rw[if_neg (by decide +kernel)];exact⟨rfl,rfl⟩))
  (fun os started H enc _=>lifted os started H enc)
#print axioms proved
end lawOrmapResets
end Go.Proofs.YtjpcechcefhcfaaGreat
