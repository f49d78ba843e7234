/- Proved: the law OpReads answers true for every tree, every path that can be handed in, and leaves its arguments as they were. Conditions: none. -/
import Derived.Test.YtgeafpaognhokaaGreatG00
import Derived.Test.YtgeafpaognhokaaGreatG1110
import Derived.Test.YtgeafpaognhokaaGreatG80
import Derived.Test.YtgeafpaognhokaaGreatOpView
import Derived.Test.YtgeafpaognhokaaGreatG60
set_option maxRecDepth 100000
set_option maxHeartbeats 4000000
open Go.ChangeShapes Go.WideShapes Go.ChangeAt Go.RowKit
namespace Go.Proofs.YtgeafpaognhokaaGreat
namespace lawOpReads
open Tr Cx Cs Sp Rw Classical
theorem small_tree (t:T) (Ae Ak:Option Addr) (ne nk ce ck:Nat) (w:World) (hl:LenT reachBytes t) (hr:RdT w w.heap.size t ⟨Ae,ne,ce⟩ ⟨Ak,nk,ck⟩) :
  Calls Tryz.prog 19 #[.agg #[.slice Ae ne ce,.slice Ak nk ck]] w fun e w'=>∃ b:Bool,e = .returned (.bool b)∧(b=true→nodes t≤60)∧Below w.heap.size w w':=by
 obtain⟨p,hp⟩:∃ p,p=w.heap.size:=⟨_,rfl⟩;have HKc:=Lib.hid (tree_box w Ae Ak ne nk ce ck);rw[← hp]at HKc;obtain⟨W,hW⟩:∃ W,W=w.alloc (.cells #[.slice Ae ne ce,.slice Ak nk ck] 35):=⟨_,rfl⟩;rw[← hW]at HKc;have HP:=Lib.hid hp;have HW:=Lib.hid hW;have HSM:=Lib.hid (small_to t Ae Ak ne nk ce ck 60 60 rfl W (by omega) hl (RdT.more HKc.out.below.size _ (RdT.below hr HKc.out.below)));have c0:=HKc.out.c0;have c1:=HKc.out.c1;clear hp hW hl hr;go_enter Tryz.func19,Tryz.ntmps19;go_wp2_with fail;rw[← HP.out,← HW.out];refine HSM.out.mono ?_;rintro e v1 ⟨b,rfl,hb,hb9⟩;have HKc:=Lib.hid (HKc.out.later hb9);have HB:=Lib.hid hb;clear hb9 hb c0 c1 HSM;go_wp2_with fail;go_ret;exact⟨b,rfl,HB.out,HKc.out.below⟩
theorem walk_any (t:T) (Ae Ak:Option Addr) (ne nk ce ck:Nat) (pl:List ByteArray) (pn:Nat) (PA:Option Addr) (pc:Nat) (w:World) (hr:RdT w w.heap.size t ⟨Ae,ne,ce⟩ ⟨Ak,nk,ck⟩) (hl:LenT reachBytes t) (hp:Rd w w.heap.size 1 PA pn pc (Tr.strs pl)) :
  Calls Tryz.prog 6 #[.agg #[.slice Ae ne ce,.slice Ak nk ck],.slice PA pn pc] w fun e w'=>e = .returned (.bool true)∧Below w.heap.size w w':=by
 obtain⟨W,p,HW,HP,HKc⟩:∃ (W:World) (p:Nat),Hid (W=(w.alloc (.cells #[.slice Ae ne ce,.slice Ak nk ck] 35)))∧Hid (p=w.heap.size) ∧  Hid (Kept [(⟨p,0,none⟩,.slice Ae ne ce),(⟨p,1,none⟩,.slice Ak nk ck)] w W):=by
  refine⟨_,_,rfl,rfl,?_⟩;have h0:=Kept.nil_of (show Below w.heap.size w ((w.alloc (.cells #[.slice Ae ne ce,.slice Ak nk ck] 35))) from (Below.refl _ _).alloc (Nat.le_refl _) _)
  refine ((h0).cons_of ?_).cons_of ?_ <;> go_simp
 have R:=Lib.hid (RdT.later hr HKc.out.below);have RP:=Lib.hid (hp.later HKc.out.below);have L:=Lib.hid hl;clear hr hp hl;have c0:=HKc.out.c0;have c1:=HKc.out.c1;go_enter Tryz.func6,Tryz.ntmps6;go_wp2_with fail;rw[← HW.out,← HP.out];refine (awake15 W).mono ?_;rintro e v1 ⟨rfl,hb9⟩;have HKc:=Lib.hid (HKc.out.later hb9);have R:=Lib.hid (RdT.later R.out hb9);have RP:=Lib.hid (RP.out.later hb9);clear hb9;clear c0 c1;have c0:=HKc.out.c0;have c1:=HKc.out.c1;go_wp2_with fail;refine (small_tree t Ae Ak ne nk ce ck v1 L.out R.out).mono ?_;rintro e v2 ⟨b9,rfl,hsm,hb9⟩;have HSM:=Lib.hid hsm;clear hsm;have HKc:=Lib.hid (HKc.out.later hb9);have R:=Lib.hid (RdT.later R.out hb9);have RP:=Lib.hid (RP.out.later hb9);clear hb9;clear c0 c1
 cases b9 with
 | false=>
  have c0:=HKc.out.c0;have c1:=HKc.out.c1;go_wp2_with fail;refine (awake15 _).mono ?_;rintro e v99 ⟨rfl,hb9⟩;have HKc:=Lib.hid (HKc.out.later hb9);clear hb9;go_wp2_with fail;go_ret;exact⟨by first | rfl | simp,HKc.out.below⟩
 | true=>
  have N:Hid (nodes t≤60):=HSM.out rfl;clear HSM
  by_cases h20:20<pn
  ·have f20:decide ((20:Int)<(pn:Int))=true:=decide_eq_true (by omega)
   have c0:=HKc.out.c0;have c1:=HKc.out.c1;go_wp2_with fail;refine (awake15 _).mono ?_;rintro e v99 ⟨rfl,hb9⟩;have HKc:=Lib.hid (HKc.out.later hb9);clear hb9;go_wp2_with fail;go_ret;exact⟨by first | rfl | simp,HKc.out.below⟩
  ·have f20:decide ((20:Int)<(pn:Int))=false:=decide_eq_false (by omega)
   have HX:Hid (pn≤20):=by unfold Hid;omega
   clear h20;obtain⟨er,her⟩:∃ e,readE t pl=e:=⟨_,rfl⟩
   obtain⟨v,hv0,hv1,hv2⟩:∃ v:Vw,(er=0→ReadOk (getT t pl) (lastK pl) v)∧(¬er=0→v=zeroV)∧v.l.length≤240:=by
    by_cases h0:er=0
    ·obtain⟨v,h1,h2⟩:=read_ex (getT t pl) (lastK pl)
     exact⟨v,fun _=>h1,fun h=>absurd h0 h,Nat.le_trans h2 (Nat.le_trans (nodes_getT t pl) (by have:=N.out;omega))⟩
    ·exact⟨zeroV,fun h=>absurd h h0,fun _=>rfl,Nat.zero_le _⟩
   have HER:=Lib.hid her;have HV:=Lib.hid (And.intro hv0 (And.intro hv1 hv2));clear her hv0 hv1 hv2;have c0:=HKc.out.c0;have c1:=HKc.out.c1;go_wp2_with fail;refine (oread_any t Ae Ak ne nk ce ck pl PA pn pc v er v2 HER.out HV.out.1 HV.out.2.1 L.out (by have:=N.out;omega) R.out (by have:=N.out;omega) (by have:=HX.out;omega) RP.out (by have:=HV.out.2.2;omega)).mono ?_;rintro e v3 ⟨XA,Xc,rfl,hrd,hb9⟩;have HKc:=Lib.hid (HKc.out.later hb9);have R:=Lib.hid (RdT.later R.out hb9);have RP:=Lib.hid (RP.out.later hb9);clear hb9;clear c0 c1;have RX:=Lib.hid hrd.out;clear hrd;obtain⟨bX,hbX⟩:∃ g,g=v3.heap.size:=⟨_,rfl⟩;obtain⟨v4,hv4⟩:∃ W,W=v3.alloc (.cells #[.int .i64 v.kd,.bool v.on,.int .i64 v.n,.slice XA v.l.length Xc] 51):=⟨_,rfl⟩
   have hb9:Below v3.heap.size v3 v4:=by rw[hv4];exact Dt.box_below _ _ _
   have b0:v4.cell? ⟨bX,0,none⟩=some (.int .i64 v.kd):=by rw[hv4,hbX];go_simp
   have b1:v4.cell? ⟨bX,1,none⟩=some (.bool v.on):=by rw[hv4,hbX];go_simp
   have b2:v4.cell? ⟨bX,2,none⟩=some (.int .i64 v.n):=by rw[hv4,hbX];go_simp
   have b3:v4.cell? ⟨bX,3,none⟩=some (.slice XA v.l.length Xc):=by rw[hv4,hbX];go_simp
   have HKc:=Lib.hid (HKc.out.later hb9);have R:=Lib.hid (RdT.later R.out hb9);have RP:=Lib.hid (RP.out.later hb9);have RX:=Lib.hid (RX.out.later hb9);clear hb9;have HKc:=Lib.hid ((((HKc.out.cons_of b3).cons_of b2).cons_of b1).cons_of b0);have HbX:=Lib.hid hbX;have Hv4:=Lib.hid hv4;clear hbX hv4 b0 b1 b2 b3;obtain⟨c0,c1,c2,c3,c4,c5,-⟩:=HKc.out.cj;rw[Hv4.out]at c0 c1 c2 c3 c4 c5;rw[HbX.out]at c0 c1 c2 c3;go_wp2_with fail;rw[← HbX.out,← Hv4.out];refine (refread_any t Ae Ak ne nk ce ck pl PA pn pc v er v4 HER.out HV.out.1 HV.out.2.1 L.out (by have:=N.out;omega) R.out (by have:=N.out;omega) (by have:=HX.out;omega) RP.out (by have:=HV.out.2.2;omega)).mono ?_;rintro e v5 ⟨YA,Yc,rfl,hrd,hb9⟩;have HKc:=Lib.hid (HKc.out.later hb9);have R:=Lib.hid (RdT.later R.out hb9);have RP:=Lib.hid (RP.out.later hb9);have RX:=Lib.hid (RX.out.later hb9)
   clear hb9;clear c0 c1 c2 c3 c4 c5;have RY:=Lib.hid hrd.out;clear hrd;obtain⟨bY,hbY⟩:∃ g,g=v5.heap.size:=⟨_,rfl⟩;obtain⟨v6,hv6⟩:∃ W,W=v5.alloc (.cells #[.int .i64 v.kd,.bool v.on,.int .i64 v.n,.slice YA v.l.length Yc] 51):=⟨_,rfl⟩
   have hb9:Below v5.heap.size v5 v6:=by rw[hv6];exact Dt.box_below _ _ _
   have b0:v6.cell? ⟨bY,0,none⟩=some (.int .i64 v.kd):=by rw[hv6,hbY];go_simp
   have b1:v6.cell? ⟨bY,1,none⟩=some (.bool v.on):=by rw[hv6,hbY];go_simp
   have b2:v6.cell? ⟨bY,2,none⟩=some (.int .i64 v.n):=by rw[hv6,hbY];go_simp
   have b3:v6.cell? ⟨bY,3,none⟩=some (.slice YA v.l.length Yc):=by rw[hv6,hbY];go_simp
   have HKc:=Lib.hid (HKc.out.later hb9);have R:=Lib.hid (RdT.later R.out hb9);have RP:=Lib.hid (RP.out.later hb9);have RX:=Lib.hid (RX.out.later hb9);have RY:=Lib.hid (RY.out.later hb9);clear hb9;have HKc:=Lib.hid ((((HKc.out.cons_of b3).cons_of b2).cons_of b1).cons_of b0);have HbY:=Lib.hid hbY;have Hv6:=Lib.hid hv6;clear hbY hv6 b0 b1 b2 b3;obtain⟨c0,c1,c2,c3,c4,c5,c6,c7,c8,c9,-⟩:=HKc.out.cj;rw[Hv6.out]at c0 c1 c2 c3 c4 c5 c6 c7 c8 c9;rw[HbY.out]at c0 c1 c2 c3;go_wp2_with fail;rw[← HbY.out,← Hv6.out];refine (refsameV_any v.kd v.n v.kd v.n v.on v.on v.l v.l XA YA v.l.length Xc v.l.length Yc v6 true (decide_eq_true ⟨rfl,rfl,rfl,rfl⟩) (by have:=HV.out.2.2;omega) RX.out RY.out).mono ?_;rintro e v7 ⟨rfl,hb9⟩;have HKc:=Lib.hid (HKc.out.later hb9);have R:=Lib.hid (RdT.later R.out hb9);have RP:=Lib.hid (RP.out.later hb9);have RX:=Lib.hid (RX.out.later hb9)
   have RY:=Lib.hid (RY.out.later hb9);clear hb9;clear c0 c1 c2 c3 c4 c5 c6 c7 c8 c9;go_wp2_with fail;go_ret;exact⟨by first | rfl | simp,HKc.out.below⟩
set_option maxRecDepth 100000 in
theorem lifted (os:Os) (started:os.Started) (H:Type) (enc:TypeId×Value→H) :
  ReturnsInHanded {} Tryz.checked os 6 .any (Rows.opReadsSpec.pre6 enc Tryz.prog Tryz.f6 Rows.opReadsRow.domain false) (Rows.opReadsSpec.post enc Tryz.prog Tryz.f6 false true false false):=by
 refine returnsInHanded_of_change_sized (C:=Tryz.checked) own started (by kernel_rfl) Tryz.func6
  (ChangeSpec.witness6 (enc:=enc) (C:=Tryz.checked) false ⟨#[],#[.agg #[.slice none 0 0,.slice none 0 0],.slice none 0 0],[]⟩ 8 (by kernel_rfl) (by kernel_rfl) (by kernel_rfl) (by kernel_rfl)) ?_
 intro W base args ds gs before hval0 hW _ hsz0 _;have hval:∀ (j:Nat) t v,Tryz.f6.params[j]?=some t→args[j]?=some v→Value.okWide Tryz.prog W .any base t v:=hval0;have hW':=hW;obtain⟨p,q,hA0,hV,rfl,hfz,hnd⟩:=hW;have hA:DataW.TrodAll enc Tryz.prog W 0 (fun _=>true) true Tryz.f6.params.toList args.toList ds p:=hA0;rw[Tryz.params6]at hA hval;obtain⟨v0,v1,d0,d1,p0,p1,rfl,rfl,rfl,h0,h1⟩:=trodAll_two hA;obtain⟨rfl,rfl⟩:=trodVars_none hV;have hsz:(DataW.weightsEach Tryz.prog (35::25::_) (d0::d1::_)).all (· ≤ reachBytes)=true:=hsz0;obtain⟨hw0,hsz⟩:=Tr.weights_head hsz;obtain⟨t0,ae0,ak0,ne0,nk0,ce0,ck0,rfl,hr0,hl0⟩:=Tr.treeV_of_trod (hval 0 35 v0 rfl rfl) h0 hw0
 obtain⟨A1,n1,c1,rfl⟩:=okWide_slice Tryz.underlying25 (hval 1 25 v1 rfl rfl);obtain⟨f1,hf1⟩:=h1;obtain⟨l1,_,hp1,_⟩:=Tr.strs_of_trod hf1;refine (walk_any t0 ae0 ak0 ne0 nk0 ce0 ck0 l1 n1 A1 c1 W hr0 hl0 hp1).mono fun e W' ⟨he,hb⟩=>?_;subst he;exact⟨_,rfl,law_post hW' (by kernel_rfl) rfl rfl rfl hb⟩
theorem proved:Rows.OpReadsSaid:=
 OpenClaim.holds_of_wide 6 Tryz.f6 rfl rfl rfl rfl rfl rfl rfl ⟨rfl,rfl,rfl,rfl,rfl⟩ rfl rfl rfl rfl rfl (by kernel_rfl) Tryz.func6 (by kernel_rfl)
  (of_decide_eq_true (by kernel_rfl)) (by unfold Func.isWrapper;first | (rw[if_pos (by decide +kernel)];kernel_rfl) | (rw[if_neg (by decide +kernel)];exact⟨rfl,rfl⟩))
  (fun os started H enc _=>lifted os started H enc)
#print axioms proved
end lawOpReads
end Go.Proofs.YtgeafpaognhokaaGreat
