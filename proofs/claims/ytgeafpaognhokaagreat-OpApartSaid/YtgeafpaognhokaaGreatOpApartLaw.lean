/- Proved: the law OpApart answers true for every tree, every change, every dot, every path that can be handed in, and leaves its arguments as they were. Conditions: none. -/
import Derived.Test.YtgeafpaognhokaaGreatG00
import Derived.Test.YtgeafpaognhokaaGreatG1110
import Derived.Test.YtgeafpaognhokaaGreatOpRef1
import Derived.Test.YtgeafpaognhokaaGreatOpApply
import Derived.Test.YtgeafpaognhokaaGreatOpView
import Derived.Test.YtgeafpaognhokaaGreatG60
import Derived.Test.YtgeafpaognhokaaGreatG50
import Derived.Test.YtgeafpaognhokaaGreatOpApp
import Derived.Test.YtgeafpaognhokaaGreatG80
set_option maxRecDepth 100000
set_option maxHeartbeats 4000000
open Go.ChangeShapes Go.WideShapes Go.ChangeAt Go.RowKit
namespace Go.Proofs.YtgeafpaognhokaaGreat
namespace lawOpApart
open Tr Cx Cs Sp Rw Classical
theorem refpath_long {n:Nat} (A:Option Addr) (c:Nat) (w:World) (h:3<n):Calls Tryz.prog 16 #[.slice A n c] w fun e w'=>e = .returned (.int .i64 1)∧Below w.heap.size w w':=by
 have f0:((n:Int)==0)=false:=by simp;omega
 have f3:decide ((3:Int)<(n:Int))=true:=decide_eq_true (by omega);clear h;go_enter Tryz.func16,Tryz.ntmps16;go_wp2_with fail;go_ret;exact⟨rfl,Below.refl _ _⟩
theorem refop_long (xa:Int) (xs:ByteArray) (xv:Int) (xA:Option Addr) (xn xc:Nat) (w:World) (h:3<xn) :
  Calls Tryz.prog 18 #[.agg #[.slice xA xn xc,.int .i64 xa,.string xs,.int .i64 xv]] w fun e w'=>e = .returned (.int .i64 1)∧Below w.heap.size w w':=by
 obtain⟨g,hg⟩:∃ g,g=w.heap.size:=⟨_,rfl⟩;obtain⟨W,hW⟩:∃ W,W=w.alloc (.cells #[.slice xA xn xc,.int .i64 xa,.string xs,.int .i64 xv] 27):=⟨_,rfl⟩
 have hb0:Below w.heap.size w W:=by rw[hW];exact Dt.box_below _ _ _
 have HKc:Hid (Kept [(⟨g,0,none⟩,.slice xA xn xc),(⟨g,1,none⟩,.int .i64 xa),(⟨g,2,none⟩,.string xs),(⟨g,3,none⟩,.int .i64 xv)] w W):=by
  have h0:=Kept.nil_of hb0
  refine (((h0.cons_of ?_).cons_of ?_).cons_of ?_).cons_of ?_ <;> (rw[hW,hg];go_simp)
 have HG:=Lib.hid hg;have HW:=Lib.hid hW;clear hg hW hb0;obtain⟨c0,c1,c2,c3,-⟩:=HKc.out.cj;go_enter Tryz.func18,Tryz.ntmps18;go_wp2_with fail;rw[← HG.out,← HW.out];refine (refpath_long xA xc W h).mono ?_;rintro e v1 ⟨rfl,hb9⟩;have HKc:=Lib.hid (HKc.out.later hb9);clear hb9;go_wp2_with fail;go_ret;exact⟨rfl,HKc.out.below⟩
theorem boxTOD (w:World) (Ae Ak:Option Addr) (ne nk ce ck:Nat) (xA:Option Addr) (xn xc:Nat) (xa:Int) (xs:ByteArray) (xv a n:Int):∃ (W:World) (p q s:Nat),Hid (W=((w.alloc (.cells #[.slice Ae ne ce,.slice Ak nk ck] 35)).alloc (.cells #[.slice xA xn xc,.int .i64 xa,.string xs,.int .i64 xv] 27)).alloc (.cells #[.int .i64 a,.int .i64 n] 37))∧Hid (p=w.heap.size)∧Hid (q=p+1)∧Hid (s=p+1+1)∧Hid (Kept [(⟨p,0,none⟩,.slice Ae ne ce),(⟨p,1,none⟩,.slice Ak nk ck),(⟨q,0,none⟩,.slice xA xn xc),(⟨q,1,none⟩,.int .i64 xa),(⟨q,2,none⟩,.string xs),(⟨q,3,none⟩,.int .i64 xv),(⟨s,0,none⟩,.int .i64 a),(⟨s,1,none⟩,.int .i64 n)] w W):=by
 refine⟨_,_,_,_,rfl,rfl,rfl,rfl,?_⟩;have h0:=Kept.nil_of (show Below w.heap.size w (((w.alloc (.cells #[.slice Ae ne ce,.slice Ak nk ck] 35)).alloc (.cells #[.slice xA xn xc,.int .i64 xa,.string xs,.int .i64 xv] 27)).alloc (.cells #[.int .i64 a,.int .i64 n] 37)) from (((Below.refl _ _).alloc (Nat.le_refl _) _).alloc (by simp) _).alloc (by simp;omega) _)
 refine ((((((((h0).cons_of ?_).cons_of ?_).cons_of ?_).cons_of ?_).cons_of ?_).cons_of ?_).cons_of ?_).cons_of ?_ <;> go_simp
theorem small_tree (t:T) (Ae Ak:Option Addr) (ne nk ce ck:Nat) (w:World) (hl:LenT reachBytes t) (hr:RdT w w.heap.size t ⟨Ae,ne,ce⟩ ⟨Ak,nk,ck⟩) :
  Calls Tryz.prog 19 #[.agg #[.slice Ae ne ce,.slice Ak nk ck]] w fun e w'=>∃ b:Bool,e = .returned (.bool b)∧(b=true→nodes t≤60)∧Below w.heap.size w w':=by
 obtain⟨p,hp⟩:∃ p,p=w.heap.size:=⟨_,rfl⟩;have HKc:=Lib.hid (tree_box w Ae Ak ne nk ce ck);rw[← hp]at HKc;obtain⟨W,hW⟩:∃ W,W=w.alloc (.cells #[.slice Ae ne ce,.slice Ak nk ck] 35):=⟨_,rfl⟩;rw[← hW]at HKc;have HP:=Lib.hid hp;have HW:=Lib.hid hW;have HSM:=Lib.hid (small_to t Ae Ak ne nk ce ck 60 60 rfl W (by omega) hl (RdT.more HKc.out.below.size _ (RdT.below hr HKc.out.below)));have c0:=HKc.out.c0;have c1:=HKc.out.c1;clear hp hW hl hr;go_enter Tryz.func19,Tryz.ntmps19;go_wp2_with fail;rw[← HP.out,← HW.out];refine HSM.out.mono ?_;rintro e v1 ⟨b,rfl,hb,hb9⟩;have HKc:=Lib.hid (HKc.out.later hb9);have HB:=Lib.hid hb;clear hb9 hb c0 c1 HSM;go_wp2_with fail;go_ret;exact⟨b,rfl,HB.out,HKc.out.below⟩
theorem refop_all (xp:List ByteArray) (xa:Int) (xs:ByteArray) (xv:Int) (xA:Option Addr) (xn xc:Nat) (w:World) (z:Int) (hz:opE ⟨xp,xa,xs,xv⟩=z) (hrx:Rd w w.heap.size 1 xA xn xc (Tr.strs xp)) :
  Calls Tryz.prog 18 #[.agg #[.slice xA xn xc,.int .i64 xa,.string xs,.int .i64 xv]] w fun e w'=>e = .returned (.int .i64 z)∧Below w.heap.size w w':=by
 by_cases h3:3<xn
 ·have h1:pathE xp=1:=pathE_one (.inr (.inl (by rw[rd_len1 hrx];exact h3)))
  have h2:z=1:=by
   rw[← hz,opE_path (by show ¬pathE xp=0;rw[h1];decide)];exact h1
  subst h2;exact refop_long xa xs xv xA xn xc w h3
 ·exact refop_any xp xa xs xv xA xn xc w z hz (by omega) hrx
theorem walk_any (t:T) (Ae Ak:Option Addr) (ne nk ce ck:Nat) (xp:List ByteArray) (xa:Int) (xs:ByteArray) (xv:Int) (xA:Option Addr) (xn xc:Nat) (a n:Int) (pl:List ByteArray) (pn:Nat) (PA:Option Addr) (pc:Nat) (w:World) (hr:RdT w w.heap.size t ⟨Ae,ne,ce⟩ ⟨Ak,nk,ck⟩) (hl:LenT reachBytes t) (ho:Rd w w.heap.size 1 xA xn xc (Tr.strs xp)) (hp:Rd w w.heap.size 1 PA pn pc (Tr.strs pl)) :
  Calls Tryz.prog 8 #[.agg #[.slice Ae ne ce,.slice Ak nk ck],.agg #[.slice xA xn xc,.int .i64 xa,.string xs,.int .i64 xv],.agg #[.int .i64 a,.int .i64 n],.slice PA pn pc] w fun e w'=>e = .returned (.bool true)∧Below w.heap.size w w':=by
 obtain⟨W,p,q,s,HW,HP,HQ,HS,HKc⟩:=boxTOD w Ae Ak ne nk ce ck xA xn xc xa xs xv a n;have HR0:=Lib.hid hr;have HX0:=Lib.hid ho;have HP0:=Lib.hid hp;have R:=Lib.hid (RdT.later hr HKc.out.below);have RX9:=Lib.hid (ho.later HKc.out.below);have RP9:=Lib.hid (hp.later HKc.out.below);have L:=Lib.hid hl;have HLX:=Lib.hid (rd_len1 ho);have HLP:=Lib.hid (rd_len1 hp);clear hr hl ho hp;obtain⟨c20,h20⟩:∃ b,decide ((20:Int)<(pn:Int))=b:=⟨_,rfl⟩;obtain⟨y,hy⟩:∃ y,Tr.rightB 5 t=y:=⟨_,rfl⟩;obtain⟨z,hz⟩:∃ z,opE ⟨xp,xa,xs,xv⟩=z:=⟨_,rfl⟩;obtain⟨zb,hzb⟩:∃ b,(z != 0)=b:=⟨_,rfl⟩;have H20:=Lib.hid h20;have HY:=Lib.hid hy;have HZ:=Lib.hid hz;have HZB:=Lib.hid hzb;clear h20 hy hz hzb;go_enter Tryz.func8,Tryz.ntmps8
 go_upto_region 1 with fail
 rw[← HW.out,← HP.out]
 try rw[← HS.out]
 try rw[← HQ.out]
 go_cut [58] (fun s9 wx=>∃ c9:Bool,s9 = .bool c9∧Hid (c9=false→(nodes t≤60∧pn≤20∧xn≤3)∧RightT 5 t∧OnceT t∧OpOk ⟨xp,xa,xs,xv⟩∧∃ (k k0:ByteArray) (l l0:List ByteArray),xp=k::l∧pl=k0::l0∧k0≠k)∧Hid (Kept [(⟨p,0,none⟩,.slice Ae ne ce),(⟨p,1,none⟩,.slice Ak nk ck),(⟨q,0,none⟩,.slice xA xn xc),(⟨q,1,none⟩,.int .i64 xa),(⟨q,2,none⟩,.string xs),(⟨q,3,none⟩,.int .i64 xv),(⟨s,0,none⟩,.int .i64 a),(⟨s,1,none⟩,.int .i64 n)] w wx))
 case first=>
  have f20:=H20.out;have fzb:=HZB.out;have HK8:=HKc
  cases pl with
  | nil=>
   obtain rfl:pn=0:=HLP.out.symm;clear f20
   obtain rfl:c20=false:=by rw[← H20.out];rfl
   refine wp_region_held_drew (S:=Conj _) (by kernel_rfl) HKc.out.drew.cj (fun hHeld=>?_);obtain⟨v1,hv1⟩:∃ v,v=W.drew:=⟨_,rfl⟩
   have hb9:Below W.heap.size W v1:=by rw[hv1];exact (Below.refl _ _).drew
   have HKc:=Lib.hid (HKc.out.later hb9);have R:=Lib.hid (RdT.later R.out hb9);have RX9:=Lib.hid (RX9.out.later hb9);have RP9:=Lib.hid (RP9.out.later hb9);have HK8:=Lib.hid (HK8.out.later hb9);clear hb9;rw[← hv1]at hHeld ⊢;clear hv1;refine Tc 0 (fun K hK=>?_);go_simp;(go_at_call 12;refine (awake15 v1).mono ?_);rintro e v2 ⟨rfl,hb9⟩;have HKc:=Lib.hid (HKc.out.later hb9);have R:=Lib.hid (RdT.later R.out hb9);have RX9:=Lib.hid (RX9.out.later hb9);have RP9:=Lib.hid (RP9.out.later hb9);have HK8:=Lib.hid (HK8.out.later hb9);clear hb9;clear hHeld;refine Th hK ?_ (fun hHeld=>?_)
   ·exact HKc.out.cj
   clear hK K;refine Tk 1 18 ?_;refine Tk 2 19 ?_;refine Tk 3 20 ?_;refine Tc 4 (fun K hK=>?_);go_simp;(go_at_call 19;refine (small_tree t Ae Ak ne nk ce ck v2 L.out R.out).mono ?_);rintro e v3 ⟨b9,rfl,hsm,hb9⟩;have HSM:=Lib.hid hsm;clear hsm;have HKc:=Lib.hid (HKc.out.later hb9);have R:=Lib.hid (RdT.later R.out hb9);have RX9:=Lib.hid (RX9.out.later hb9);have RP9:=Lib.hid (RP9.out.later hb9);have HK8:=Lib.hid (HK8.out.later hb9);clear hb9;clear hHeld;refine Th hK ?_ (fun hHeld=>?_)
   ·exact HKc.out.cj
   clear hK K
   cases b9 with
   | true=>
    refine Tk 5 22 ?_;refine Tk 6 23 ?_;refine Tk 7 24 ?_;refine Tk 8 25 ?_;refine Tk 9 26 ?_;refine Tk 10 27 ?_;refine Tk 11 28 ?_;refine Tk 12 29 ?_;refine Tk 13 30 ?_;refine Tc 14 (fun K hK=>?_);go_simp;(go_at_call 27;refine (refrightT_any t Ae Ak ne nk ce ck v3 L.out R.out).mono ?_);rintro e v4 ⟨he,hb9⟩;rw[HY.out]at he;subst he;have HKc:=Lib.hid (HKc.out.later hb9);have R:=Lib.hid (RdT.later R.out hb9);have RX9:=Lib.hid (RX9.out.later hb9);have RP9:=Lib.hid (RP9.out.later hb9);have HK8:=Lib.hid (HK8.out.later hb9);clear hb9;clear hHeld;refine Th hK ?_ (fun hHeld=>?_)
    ·exact HKc.out.cj
    clear hK K
    cases y with
    | true=>
     refine Tk 15 32 ?_;refine Tk 16 33 ?_;refine Tk 17 34 ?_;refine Tk 18 35 ?_;refine Tc 19 (fun K hK=>?_);go_simp;(go_at_call 28;refine (refonce_any t Ae Ak ne nk ce ck v4 (Tr.rightB_iff.1 HY.out) L.out (by have:=HSM.out rfl;omega) R.out).mono ?_);rintro e v5 ⟨z9,rfl,hon,hb9⟩;have HON9:=Lib.hid hon;clear hon;have HKc:=Lib.hid (HKc.out.later hb9);have R:=Lib.hid (RdT.later R.out hb9);have RX9:=Lib.hid (RX9.out.later hb9);have RP9:=Lib.hid (RP9.out.later hb9);have HK8:=Lib.hid (HK8.out.later hb9);clear hb9;clear hHeld;refine Th hK ?_ (fun hHeld=>?_)
     ·exact HKc.out.cj
     clear hK K
     cases z9 with
     | true=>
      refine Tk 20 37 ?_;refine Tk 21 38 ?_;refine Tk 22 39 ?_;refine Tk 23 40 ?_;refine Tc 24 (fun K hK=>?_);go_simp;(go_at_call 18;refine (refop_all xp xa xs xv xA xn xc v5 z HZ.out RX9.out).mono ?_);rintro e v6 ⟨rfl,hb9⟩;have HKc:=Lib.hid (HKc.out.later hb9);have R:=Lib.hid (RdT.later R.out hb9);have RX9:=Lib.hid (RX9.out.later hb9);have RP9:=Lib.hid (RP9.out.later hb9);have HK8:=Lib.hid (HK8.out.later hb9);clear hb9;clear hHeld;refine Th hK ?_ (fun hHeld=>?_)
      ·exact HKc.out.cj
      clear hK K
      cases zb with
      | true=>
       refine Tk 25 42 ?_;refine Tk 26 43 ?_;refine Tk 27 44 ?_;refine Tn 28 45 ?_;refine Tn 29 46 ?_;refine Tn 30 47 ?_;refine Tk 31 48 ?_;refine Tk 32 49 ?_;refine Tn 33 50 ?_;refine Tn 34 51 ?_;refine Tn 35 52 ?_;refine Tn 36 53 ?_;refine Tn 37 54 ?_;refine Tn 38 55 ?_;refine Tn 39 56 ?_;refine Tn 40 57 ?_;refine Tk 41 58 ?_;refine wpAnyH_done (by kernel_rfl) ?_ _;clear hHeld;go_wp2_with fail;go_meet;exact⟨true,rfl,(fun h=>by cases h),HK8.out⟩
      | false=>
       refine Tk 25 42 ?_;refine Tk 26 43 ?_;refine Tk 27 44 ?_;refine Tk 28 45 ?_;refine Tk 29 46 ?_;refine Tk 30 47 ?_;refine Tk 31 48 ?_;refine Tk 32 49 ?_;refine Tn 33 50 ?_;refine Tn 34 51 ?_;refine Tn 35 52 ?_;refine Tn 36 53 ?_;refine Tn 37 54 ?_;refine Tn 38 55 ?_;refine Tn 39 56 ?_;refine Tn 40 57 ?_;refine Tk 41 58 ?_;refine wpAnyH_done (by kernel_rfl) ?_ _;clear hHeld;go_wp2_with fail;go_meet;exact⟨true,rfl,(fun h=>by cases h),HK8.out⟩
     | false=>
      refine Tk 20 37 ?_;refine Tk 21 38 ?_;refine Tk 22 39 ?_;refine Tn 23 40 ?_;refine Tn 24 41 ?_;refine Tn 25 42 ?_;refine Tk 26 43 ?_;refine Tk 27 44 ?_;refine Tn 28 45 ?_;refine Tn 29 46 ?_;refine Tn 30 47 ?_;refine Tk 31 48 ?_;refine Tk 32 49 ?_;refine Tn 33 50 ?_;refine Tn 34 51 ?_;refine Tn 35 52 ?_;refine Tn 36 53 ?_;refine Tn 37 54 ?_;refine Tn 38 55 ?_;refine Tn 39 56 ?_;refine Tn 40 57 ?_;refine Tk 41 58 ?_;refine wpAnyH_done (by kernel_rfl) ?_ _;clear hHeld;go_wp2_with fail;go_meet;exact⟨true,rfl,(fun h=>by cases h),HK8.out⟩
    | false=>
     refine Tk 15 32 ?_;refine Tk 16 33 ?_;refine Tk 17 34 ?_;refine Tn 18 35 ?_;refine Tn 19 36 ?_;refine Tn 20 37 ?_;refine Tk 21 38 ?_;refine Tk 22 39 ?_;refine Tn 23 40 ?_;refine Tn 24 41 ?_;refine Tn 25 42 ?_;refine Tk 26 43 ?_;refine Tk 27 44 ?_;refine Tn 28 45 ?_;refine Tn 29 46 ?_;refine Tn 30 47 ?_;refine Tk 31 48 ?_;refine Tk 32 49 ?_;refine Tn 33 50 ?_;refine Tn 34 51 ?_;refine Tn 35 52 ?_;refine Tn 36 53 ?_;refine Tn 37 54 ?_;refine Tn 38 55 ?_;refine Tn 39 56 ?_;refine Tn 40 57 ?_;refine Tk 41 58 ?_;refine wpAnyH_done (by kernel_rfl) ?_ _;clear hHeld;go_wp2_with fail;go_meet;exact⟨true,rfl,(fun h=>by cases h),HK8.out⟩
   | false=>
    refine Tk 5 22 ?_;refine Tk 6 23 ?_;refine Tk 7 24 ?_;refine Tn 8 25 ?_;refine Tn 9 26 ?_;refine Tn 10 27 ?_;refine Tk 11 28 ?_;refine Tk 12 29 ?_;refine Tn 13 30 ?_;refine Tn 14 31 ?_;refine Tn 15 32 ?_;refine Tk 16 33 ?_;refine Tk 17 34 ?_;refine Tn 18 35 ?_;refine Tn 19 36 ?_;refine Tn 20 37 ?_;refine Tk 21 38 ?_;refine Tk 22 39 ?_;refine Tn 23 40 ?_;refine Tn 24 41 ?_;refine Tn 25 42 ?_;refine Tk 26 43 ?_;refine Tk 27 44 ?_;refine Tn 28 45 ?_;refine Tn 29 46 ?_;refine Tn 30 47 ?_;refine Tk 31 48 ?_;refine Tk 32 49 ?_;refine Tn 33 50 ?_;refine Tn 34 51 ?_;refine Tn 35 52 ?_;refine Tn 36 53 ?_;refine Tn 37 54 ?_;refine Tn 38 55 ?_;refine Tn 39 56 ?_;refine Tn 40 57 ?_;refine Tk 41 58 ?_;refine wpAnyH_done (by kernel_rfl) ?_ _;clear hHeld;go_wp2_with fail;go_meet;exact⟨true,rfl,(fun h=>by cases h),HK8.out⟩
  | cons k0 l0=>
   have gp:((pn:Int)==0)=false:=by have h:=HLP.out;simp at h;simp;omega
   cases xp with
   | nil=>
    obtain rfl:xn=0:=HLX.out.symm;have hz1:z≠0:=fun h=>(opE_zero.1 (HZ.out.trans h)).path.some rfl
    obtain rfl:zb=true:=by rw[← HZB.out];simpa using hz1
    clear hz1;refine wp_region_held_drew (S:=Conj _) (by kernel_rfl) HKc.out.drew.cj (fun hHeld=>?_);obtain⟨v1,hv1⟩:∃ v,v=W.drew:=⟨_,rfl⟩
    have hb9:Below W.heap.size W v1:=by rw[hv1];exact (Below.refl _ _).drew
    have HKc:=Lib.hid (HKc.out.later hb9);have R:=Lib.hid (RdT.later R.out hb9);have RX9:=Lib.hid (RX9.out.later hb9);have RP9:=Lib.hid (RP9.out.later hb9);have HK8:=Lib.hid (HK8.out.later hb9);clear hb9;rw[← hv1]at hHeld ⊢;clear hv1;refine Tc 0 (fun K hK=>?_);go_simp;(go_at_call 12;refine (awake15 v1).mono ?_);rintro e v2 ⟨rfl,hb9⟩;have HKc:=Lib.hid (HKc.out.later hb9);have R:=Lib.hid (RdT.later R.out hb9);have RX9:=Lib.hid (RX9.out.later hb9);have RP9:=Lib.hid (RP9.out.later hb9);have HK8:=Lib.hid (HK8.out.later hb9);clear hb9;clear hHeld;refine Th hK ?_ (fun hHeld=>?_)
    ·exact HKc.out.cj
    clear hK K;refine Tk 1 18 ?_;refine Tk 2 19 ?_;refine Tk 3 20 ?_;refine Tc 4 (fun K hK=>?_);go_simp;(go_at_call 19;refine (small_tree t Ae Ak ne nk ce ck v2 L.out R.out).mono ?_);rintro e v3 ⟨b9,rfl,hsm,hb9⟩;have HSM:=Lib.hid hsm;clear hsm;have HKc:=Lib.hid (HKc.out.later hb9);have R:=Lib.hid (RdT.later R.out hb9);have RX9:=Lib.hid (RX9.out.later hb9);have RP9:=Lib.hid (RP9.out.later hb9);have HK8:=Lib.hid (HK8.out.later hb9);clear hb9;clear hHeld;refine Th hK ?_ (fun hHeld=>?_)
    ·exact HKc.out.cj
    clear hK K
    cases b9 with
    | true=>
     refine Tk 5 22 ?_;refine Tk 6 23 ?_;refine Tk 7 24 ?_;refine Tk 8 25 ?_;refine Tk 9 26 ?_
     cases c20 with
     | true=>
      refine Tk 10 27 ?_;refine Tk 11 28 ?_;refine Tk 12 29 ?_;refine Tn 13 30 ?_;refine Tn 14 31 ?_;refine Tn 15 32 ?_;refine Tk 16 33 ?_;refine Tk 17 34 ?_;refine Tn 18 35 ?_;refine Tn 19 36 ?_;refine Tn 20 37 ?_;refine Tk 21 38 ?_;refine Tk 22 39 ?_;refine Tn 23 40 ?_;refine Tn 24 41 ?_;refine Tn 25 42 ?_;refine Tk 26 43 ?_;refine Tk 27 44 ?_;refine Tn 28 45 ?_;refine Tn 29 46 ?_;refine Tn 30 47 ?_;refine Tk 31 48 ?_;refine Tk 32 49 ?_;refine Tn 33 50 ?_;refine Tn 34 51 ?_;refine Tn 35 52 ?_;refine Tn 36 53 ?_;refine Tn 37 54 ?_;refine Tn 38 55 ?_;refine Tn 39 56 ?_;refine Tn 40 57 ?_;refine Tk 41 58 ?_;refine wpAnyH_done (by kernel_rfl) ?_ _;clear hHeld;go_wp2_with fail;go_meet;exact⟨true,rfl,(fun h=>by cases h),HK8.out⟩
     | false=>
      refine Tk 10 27 ?_;refine Tk 11 28 ?_;refine Tk 12 29 ?_;refine Tk 13 30 ?_;refine Tc 14 (fun K hK=>?_);go_simp;(go_at_call 27;refine (refrightT_any t Ae Ak ne nk ce ck v3 L.out R.out).mono ?_);rintro e v4 ⟨he,hb9⟩;rw[HY.out]at he;subst he;have HKc:=Lib.hid (HKc.out.later hb9);have R:=Lib.hid (RdT.later R.out hb9);have RX9:=Lib.hid (RX9.out.later hb9);have RP9:=Lib.hid (RP9.out.later hb9);have HK8:=Lib.hid (HK8.out.later hb9);clear hb9;clear hHeld;refine Th hK ?_ (fun hHeld=>?_)
      ·exact HKc.out.cj
      clear hK K
      cases y with
      | true=>
       refine Tk 15 32 ?_;refine Tk 16 33 ?_;refine Tk 17 34 ?_;refine Tk 18 35 ?_;refine Tc 19 (fun K hK=>?_);go_simp;(go_at_call 28;refine (refonce_any t Ae Ak ne nk ce ck v4 (Tr.rightB_iff.1 HY.out) L.out (by have:=HSM.out rfl;omega) R.out).mono ?_);rintro e v5 ⟨z9,rfl,hon,hb9⟩;have HON9:=Lib.hid hon;clear hon;have HKc:=Lib.hid (HKc.out.later hb9);have R:=Lib.hid (RdT.later R.out hb9);have RX9:=Lib.hid (RX9.out.later hb9);have RP9:=Lib.hid (RP9.out.later hb9);have HK8:=Lib.hid (HK8.out.later hb9);clear hb9;clear hHeld;refine Th hK ?_ (fun hHeld=>?_)
       ·exact HKc.out.cj
       clear hK K
       cases z9 with
       | true=>
        refine Tk 20 37 ?_;refine Tk 21 38 ?_;refine Tk 22 39 ?_;refine Tk 23 40 ?_;refine Tc 24 (fun K hK=>?_);go_simp;(go_at_call 18;refine (refop_all [] xa xs xv xA 0 xc v5 z HZ.out RX9.out).mono ?_);rintro e v6 ⟨rfl,hb9⟩;have HKc:=Lib.hid (HKc.out.later hb9);have R:=Lib.hid (RdT.later R.out hb9);have RX9:=Lib.hid (RX9.out.later hb9);have RP9:=Lib.hid (RP9.out.later hb9);have HK8:=Lib.hid (HK8.out.later hb9);clear hb9;clear hHeld;refine Th hK ?_ (fun hHeld=>?_)
        ·exact HKc.out.cj
        clear hK K;refine Tk 25 42 ?_;refine Tk 26 43 ?_;refine Tk 27 44 ?_;refine Tn 28 45 ?_;refine Tn 29 46 ?_;refine Tn 30 47 ?_;refine Tk 31 48 ?_;refine Tk 32 49 ?_;refine Tn 33 50 ?_;refine Tn 34 51 ?_;refine Tn 35 52 ?_;refine Tn 36 53 ?_;refine Tn 37 54 ?_;refine Tn 38 55 ?_;refine Tn 39 56 ?_;refine Tn 40 57 ?_;refine Tk 41 58 ?_;refine wpAnyH_done (by kernel_rfl) ?_ _;clear hHeld;go_wp2_with fail;go_meet;exact⟨true,rfl,(fun h=>by cases h),HK8.out⟩
       | false=>
        refine Tk 20 37 ?_;refine Tk 21 38 ?_;refine Tk 22 39 ?_;refine Tn 23 40 ?_;refine Tn 24 41 ?_;refine Tn 25 42 ?_;refine Tk 26 43 ?_;refine Tk 27 44 ?_;refine Tn 28 45 ?_;refine Tn 29 46 ?_;refine Tn 30 47 ?_;refine Tk 31 48 ?_;refine Tk 32 49 ?_;refine Tn 33 50 ?_;refine Tn 34 51 ?_;refine Tn 35 52 ?_;refine Tn 36 53 ?_;refine Tn 37 54 ?_;refine Tn 38 55 ?_;refine Tn 39 56 ?_;refine Tn 40 57 ?_;refine Tk 41 58 ?_;refine wpAnyH_done (by kernel_rfl) ?_ _;clear hHeld;go_wp2_with fail;go_meet;exact⟨true,rfl,(fun h=>by cases h),HK8.out⟩
      | false=>
       refine Tk 15 32 ?_;refine Tk 16 33 ?_;refine Tk 17 34 ?_;refine Tn 18 35 ?_;refine Tn 19 36 ?_;refine Tn 20 37 ?_;refine Tk 21 38 ?_;refine Tk 22 39 ?_;refine Tn 23 40 ?_;refine Tn 24 41 ?_;refine Tn 25 42 ?_;refine Tk 26 43 ?_;refine Tk 27 44 ?_;refine Tn 28 45 ?_;refine Tn 29 46 ?_;refine Tn 30 47 ?_;refine Tk 31 48 ?_;refine Tk 32 49 ?_;refine Tn 33 50 ?_;refine Tn 34 51 ?_;refine Tn 35 52 ?_;refine Tn 36 53 ?_;refine Tn 37 54 ?_;refine Tn 38 55 ?_;refine Tn 39 56 ?_;refine Tn 40 57 ?_;refine Tk 41 58 ?_;refine wpAnyH_done (by kernel_rfl) ?_ _;clear hHeld;go_wp2_with fail;go_meet;exact⟨true,rfl,(fun h=>by cases h),HK8.out⟩
    | false=>
     refine Tk 5 22 ?_;refine Tk 6 23 ?_;refine Tk 7 24 ?_;refine Tn 8 25 ?_;refine Tn 9 26 ?_;refine Tn 10 27 ?_;refine Tk 11 28 ?_;refine Tk 12 29 ?_;refine Tn 13 30 ?_;refine Tn 14 31 ?_;refine Tn 15 32 ?_;refine Tk 16 33 ?_;refine Tk 17 34 ?_;refine Tn 18 35 ?_;refine Tn 19 36 ?_;refine Tn 20 37 ?_;refine Tk 21 38 ?_;refine Tk 22 39 ?_;refine Tn 23 40 ?_;refine Tn 24 41 ?_;refine Tn 25 42 ?_;refine Tk 26 43 ?_;refine Tk 27 44 ?_;refine Tn 28 45 ?_;refine Tn 29 46 ?_;refine Tn 30 47 ?_;refine Tk 31 48 ?_;refine Tk 32 49 ?_;refine Tn 33 50 ?_;refine Tn 34 51 ?_;refine Tn 35 52 ?_;refine Tn 36 53 ?_;refine Tn 37 54 ?_;refine Tn 38 55 ?_;refine Tn 39 56 ?_;refine Tn 40 57 ?_;refine Tk 41 58 ?_;refine wpAnyH_done (by kernel_rfl) ?_ _;clear hHeld;go_wp2_with fail;go_meet;exact⟨true,rfl,(fun h=>by cases h),HK8.out⟩
   | cons k l=>
    have hx0:0<xn:=by have h:=HLX.out;simp at h;omega
    have hp0:0<pn:=by have h:=HLP.out;simp at h;omega
    obtain⟨xb,xo,rfl,hxl,hxc⟩:=rd_text HX0.out hx0;obtain⟨pb,po,rfl,hpl,hpc⟩:=rd_text HP0.out hp0;have r0:=(HKc.out.below.cell (p:=⟨xb,xo,none⟩) hxl).trans (hxc 0 (by simp));have r1:=(HKc.out.below.cell (p:=⟨pb,po,none⟩) hpl).trans (hpc 0 (by simp));have HKc:=Lib.hid ((HKc.out.cons_of (p:=⟨pb,po,none⟩) (v:=.string k0) r1).cons_of (p:=⟨xb,xo,none⟩) (v:=.string k) r0)
    have hx0i:(0:Int)<(xn:Int):=by omega
    have hp0i:(0:Int)<(pn:Int):=by omega
    clear hxc hpc hxl hpl r0 r1;obtain⟨kq,hkq⟩:∃ b,(k.toList==k0.toList)=b:=⟨_,rfl⟩;have HKQ:=Lib.hid hkq;refine wp_region_held_drew (S:=Conj _) (by kernel_rfl) HKc.out.drew.cj (fun hHeld=>?_);obtain⟨v1,hv1⟩:∃ v,v=W.drew:=⟨_,rfl⟩
    have hb9:Below W.heap.size W v1:=by rw[hv1];exact (Below.refl _ _).drew
    have HKc:=Lib.hid (HKc.out.later hb9);have R:=Lib.hid (RdT.later R.out hb9);have RX9:=Lib.hid (RX9.out.later hb9);have RP9:=Lib.hid (RP9.out.later hb9);have HK8:=Lib.hid (HK8.out.later hb9);clear hb9;rw[← hv1]at hHeld ⊢;clear hv1;refine Tc 0 (fun K hK=>?_);go_simp;(go_at_call 12;refine (awake15 v1).mono ?_);rintro e v2 ⟨rfl,hb9⟩;have HKc:=Lib.hid (HKc.out.later hb9);have R:=Lib.hid (RdT.later R.out hb9);have RX9:=Lib.hid (RX9.out.later hb9);have RP9:=Lib.hid (RP9.out.later hb9);have HK8:=Lib.hid (HK8.out.later hb9);clear hb9;clear hHeld;refine Th hK ?_ (fun hHeld=>?_)
    ·exact HKc.out.cj
    clear hK K;refine Tk 1 18 ?_;refine Tk 2 19 ?_;refine Tk 3 20 ?_;refine Tc 4 (fun K hK=>?_);go_simp;(go_at_call 19;refine (small_tree t Ae Ak ne nk ce ck v2 L.out R.out).mono ?_);rintro e v3 ⟨b9,rfl,hsm,hb9⟩;have HSM:=Lib.hid hsm;clear hsm;have HKc:=Lib.hid (HKc.out.later hb9);have R:=Lib.hid (RdT.later R.out hb9);have RX9:=Lib.hid (RX9.out.later hb9);have RP9:=Lib.hid (RP9.out.later hb9);have HK8:=Lib.hid (HK8.out.later hb9);clear hb9;clear hHeld;refine Th hK ?_ (fun hHeld=>?_)
    ·exact HKc.out.cj
    clear hK K
    cases b9 with
    | true=>
     refine Tk 5 22 ?_;refine Tk 6 23 ?_;refine Tk 7 24 ?_;refine Tk 8 25 ?_;refine Tk 9 26 ?_
     cases c20 with
     | true=>
      refine Tk 10 27 ?_;refine Tk 11 28 ?_;refine Tk 12 29 ?_;refine Tn 13 30 ?_;refine Tn 14 31 ?_;refine Tn 15 32 ?_;refine Tk 16 33 ?_;refine Tk 17 34 ?_;refine Tn 18 35 ?_;refine Tn 19 36 ?_;refine Tn 20 37 ?_;refine Tk 21 38 ?_;refine Tk 22 39 ?_;refine Tn 23 40 ?_;refine Tn 24 41 ?_;refine Tn 25 42 ?_;refine Tk 26 43 ?_;refine Tk 27 44 ?_;refine Tn 28 45 ?_;refine Tn 29 46 ?_;refine Tn 30 47 ?_;refine Tk 31 48 ?_;refine Tk 32 49 ?_;refine Tn 33 50 ?_;refine Tn 34 51 ?_;refine Tn 35 52 ?_;refine Tn 36 53 ?_;refine Tn 37 54 ?_;refine Tn 38 55 ?_;refine Tn 39 56 ?_;refine Tn 40 57 ?_;refine Tk 41 58 ?_;refine wpAnyH_done (by kernel_rfl) ?_ _;clear hHeld;go_wp2_with fail;go_meet;exact⟨true,rfl,(fun h=>by cases h),HK8.out⟩
     | false=>
      refine Tk 10 27 ?_;refine Tk 11 28 ?_;refine Tk 12 29 ?_;refine Tk 13 30 ?_;refine Tc 14 (fun K hK=>?_);go_simp;(go_at_call 27;refine (refrightT_any t Ae Ak ne nk ce ck v3 L.out R.out).mono ?_);rintro e v4 ⟨he,hb9⟩;rw[HY.out]at he;subst he;have HKc:=Lib.hid (HKc.out.later hb9);have R:=Lib.hid (RdT.later R.out hb9);have RX9:=Lib.hid (RX9.out.later hb9);have RP9:=Lib.hid (RP9.out.later hb9);have HK8:=Lib.hid (HK8.out.later hb9);clear hb9;clear hHeld;refine Th hK ?_ (fun hHeld=>?_)
      ·exact HKc.out.cj
      clear hK K
      cases y with
      | true=>
       refine Tk 15 32 ?_;refine Tk 16 33 ?_;refine Tk 17 34 ?_;refine Tk 18 35 ?_;refine Tc 19 (fun K hK=>?_);go_simp;(go_at_call 28;refine (refonce_any t Ae Ak ne nk ce ck v4 (Tr.rightB_iff.1 HY.out) L.out (by have:=HSM.out rfl;omega) R.out).mono ?_);rintro e v5 ⟨z9,rfl,hon,hb9⟩;have HON9:=Lib.hid hon;clear hon;have HKc:=Lib.hid (HKc.out.later hb9);have R:=Lib.hid (RdT.later R.out hb9);have RX9:=Lib.hid (RX9.out.later hb9);have RP9:=Lib.hid (RP9.out.later hb9);have HK8:=Lib.hid (HK8.out.later hb9);clear hb9;clear hHeld;refine Th hK ?_ (fun hHeld=>?_)
       ·exact HKc.out.cj
       clear hK K
       cases z9 with
       | true=>
        refine Tk 20 37 ?_;refine Tk 21 38 ?_;refine Tk 22 39 ?_;refine Tk 23 40 ?_;refine Tc 24 (fun K hK=>?_);go_simp;(go_at_call 18;refine (refop_all (k::l) xa xs xv (some ⟨xb,xo,none⟩) xn xc v5 z HZ.out RX9.out).mono ?_);rintro e v6 ⟨rfl,hb9⟩;have HKc:=Lib.hid (HKc.out.later hb9);have R:=Lib.hid (RdT.later R.out hb9);have RX9:=Lib.hid (RX9.out.later hb9);have RP9:=Lib.hid (RP9.out.later hb9);have HK8:=Lib.hid (HK8.out.later hb9);clear hb9;clear hHeld;refine Th hK ?_ (fun hHeld=>?_)
        ·exact HKc.out.cj
        clear hK K
        cases zb with
        | true=>
         refine Tk 25 42 ?_;refine Tk 26 43 ?_;refine Tk 27 44 ?_;refine Tn 28 45 ?_;refine Tn 29 46 ?_;refine Tn 30 47 ?_;refine Tk 31 48 ?_;refine Tk 32 49 ?_;refine Tn 33 50 ?_;refine Tn 34 51 ?_;refine Tn 35 52 ?_;refine Tn 36 53 ?_;refine Tn 37 54 ?_;refine Tn 38 55 ?_;refine Tn 39 56 ?_;refine Tn 40 57 ?_;refine Tk 41 58 ?_;refine wpAnyH_done (by kernel_rfl) ?_ _;clear hHeld;go_wp2_with fail;go_meet;exact⟨true,rfl,(fun h=>by cases h),HK8.out⟩
        | false=>
         refine Tk 25 42 ?_;refine Tk 26 43 ?_;refine Tk 27 44 ?_;refine Tk 28 45 ?_;refine Tk 29 46 ?_;refine Tk 30 47 ?_;refine Tk 31 48 ?_;refine Tk 32 49 ?_;refine Tk 33 50 ?_;refine Tk 34 51 ?_;refine Tk 35 52 ?_;refine Tk 36 53 ?_;refine Tk 37 54 ?_;refine Tk 38 55 ?_;refine Tk 39 56 ?_
         cases kq with
         | true=>
          refine Tk 40 57 ?_;refine Tk 41 58 ?_;refine wpAnyH_done (by kernel_rfl) ?_ _;clear hHeld;go_wp2_with fail;go_meet;exact⟨true,rfl,(fun h=>by cases h),HK8.out⟩
         | false=>
          refine Tk 40 57 ?_;refine Tk 41 58 ?_;refine wpAnyH_done (by kernel_rfl) ?_ _;clear hHeld
          have HZ0:Hid (z=0):=by have h:=HZB.out;unfold Hid;simpa using h
          have HOK:Hid (OpOk ⟨k::l,xa,xs,xv⟩):=opE_zero.1 (HZ.out.trans HZ0.out)
          have HG9:Hid ((nodes t≤60∧pn≤20∧xn≤3)∧RightT 5 t∧OnceT t∧OpOk ⟨k::l,xa,xs,xv⟩∧∃ (k1 k01:ByteArray) (l1 l01:List ByteArray),k::l=k1::l1∧k0::l0=k01::l01∧k01≠k1):=by
           have h1:=of_decide_eq_false H20.out;have h2:=HOK.out.path.few;have h3:=HLX.out;dsimp only at h2
           exact⟨⟨HSM.out rfl,by omega,by omega⟩,Tr.rightB_iff.1 HY.out,HON9.out rfl,HOK.out,k,k0,l,l0,rfl,rfl,fun h=>by
            have h4:=HKQ.out;rw[h]at h4
            simp at h4⟩
          go_wp2_with fail;go_meet;exact⟨false,rfl,fun _=>HG9.out,HK8.out⟩
       | false=>
        refine Tk 20 37 ?_;refine Tk 21 38 ?_;refine Tk 22 39 ?_;refine Tn 23 40 ?_;refine Tn 24 41 ?_;refine Tn 25 42 ?_;refine Tk 26 43 ?_;refine Tk 27 44 ?_;refine Tn 28 45 ?_;refine Tn 29 46 ?_;refine Tn 30 47 ?_;refine Tk 31 48 ?_;refine Tk 32 49 ?_;refine Tn 33 50 ?_;refine Tn 34 51 ?_;refine Tn 35 52 ?_;refine Tn 36 53 ?_;refine Tn 37 54 ?_;refine Tn 38 55 ?_;refine Tn 39 56 ?_;refine Tn 40 57 ?_;refine Tk 41 58 ?_;refine wpAnyH_done (by kernel_rfl) ?_ _;clear hHeld;go_wp2_with fail;go_meet;exact⟨true,rfl,(fun h=>by cases h),HK8.out⟩
      | false=>
       refine Tk 15 32 ?_;refine Tk 16 33 ?_;refine Tk 17 34 ?_;refine Tn 18 35 ?_;refine Tn 19 36 ?_;refine Tn 20 37 ?_;refine Tk 21 38 ?_;refine Tk 22 39 ?_;refine Tn 23 40 ?_;refine Tn 24 41 ?_;refine Tn 25 42 ?_;refine Tk 26 43 ?_;refine Tk 27 44 ?_;refine Tn 28 45 ?_;refine Tn 29 46 ?_;refine Tn 30 47 ?_;refine Tk 31 48 ?_;refine Tk 32 49 ?_;refine Tn 33 50 ?_;refine Tn 34 51 ?_;refine Tn 35 52 ?_;refine Tn 36 53 ?_;refine Tn 37 54 ?_;refine Tn 38 55 ?_;refine Tn 39 56 ?_;refine Tn 40 57 ?_;refine Tk 41 58 ?_;refine wpAnyH_done (by kernel_rfl) ?_ _;clear hHeld;go_wp2_with fail;go_meet;exact⟨true,rfl,(fun h=>by cases h),HK8.out⟩
    | false=>
     refine Tk 5 22 ?_;refine Tk 6 23 ?_;refine Tk 7 24 ?_;refine Tn 8 25 ?_;refine Tn 9 26 ?_;refine Tn 10 27 ?_;refine Tk 11 28 ?_;refine Tk 12 29 ?_;refine Tn 13 30 ?_;refine Tn 14 31 ?_;refine Tn 15 32 ?_;refine Tk 16 33 ?_;refine Tk 17 34 ?_;refine Tn 18 35 ?_;refine Tn 19 36 ?_;refine Tn 20 37 ?_;refine Tk 21 38 ?_;refine Tk 22 39 ?_;refine Tn 23 40 ?_;refine Tn 24 41 ?_;refine Tn 25 42 ?_;refine Tk 26 43 ?_;refine Tk 27 44 ?_;refine Tn 28 45 ?_;refine Tn 29 46 ?_;refine Tn 30 47 ?_;refine Tk 31 48 ?_;refine Tk 32 49 ?_;refine Tn 33 50 ?_;refine Tn 34 51 ?_;refine Tn 35 52 ?_;refine Tn 36 53 ?_;refine Tn 37 54 ?_;refine Tn 38 55 ?_;refine Tn 39 56 ?_;refine Tn 40 57 ?_;refine Tk 41 58 ?_;refine wpAnyH_done (by kernel_rfl) ?_ _;clear hHeld;go_wp2_with fail;go_meet;exact⟨true,rfl,(fun h=>by cases h),HK8.out⟩
 case rest=>
  obtain⟨wc1,hwc1⟩:∃ W,W=wc:=⟨_,rfl⟩;subst hwc1;obtain⟨c9,rfl,HGD,HKd⟩:=hcut;have R:=Lib.hid (RdT.more HKd.out.below.size _ (RdT.below HR0.out HKd.out.below));have RX9:=Lib.hid ((HX0.out.below HKd.out.below).more HKd.out.below.size);have RP9:=Lib.hid ((HP0.out.below HKd.out.below).more HKd.out.below.size);have HKc:=HKd;clear HKd HY HZ HZB H20
  cases c9 with
  | true=>
   obtain⟨c0,c1,c2,c3,c4,c5,c6,c7,-⟩:=HKc.out.cj;go_wp2_with fail;refine (awake15 _).mono ?_;rintro e v99 ⟨rfl,hb9⟩;have HKc:=Lib.hid (HKc.out.later hb9);clear hb9;go_wp2_with fail;go_ret;exact⟨by first | rfl | simp,HKc.out.below⟩
  | false=>
   have HGO:=HGD.out rfl;obtain⟨⟨hn60,hp20,hx3⟩,hrt,hon,hok,k,k0,l,l0,rfl,rfl,hne⟩:=HGO;have N:Hid (nodes t≤60):=hn60;have HPX:Hid (pn≤20∧xn≤3):=⟨hp20,hx3⟩;have HT:Hid (RightT 5 t):=hrt;have HON:Hid (OnceT t):=hon;have HOK:Hid (OpOk ⟨k::l,xa,xs,xv⟩):=hok;have HNE:Hid (k0≠k):=hne;clear hn60 hp20 hx3 hrt hon hok hne HGD;obtain⟨er,her⟩:∃ e,appE t ⟨k::l,xa,xs,xv⟩ a n=e:=⟨_,rfl⟩;have HER:=Lib.hid her;clear her;obtain⟨c0,c1,c2,c3,c4,c5,c6,c7,-⟩:=HKc.out.cj;go_wp2_with fail;refine (oapply_any t Ae Ak ne nk ce ck (k::l) xa xs xv xA xn xc a n wc1 er HER.out L.out (by have:=N.out;omega) R.out (by have:=N.out;omega) (by have:=HPX.out;omega) RX9.out).mono ?_;rintro e v1 ⟨kx,Xe,xe1,xe2,Xk,xk1,xk2,Xc,xc1,xc2,rfl,how,hdo,hb9⟩;have HKc:=Lib.hid (HKc.out.later hb9);have R:=Lib.hid (RdT.later R.out hb9)
   have RX9:=Lib.hid (RX9.out.later hb9);have RP9:=Lib.hid (RP9.out.later hb9);clear hb9;clear c0 c1 c2 c3 c4 c5 c6 c7;have RX:=Lib.hid (RdP.of_own how.out);have HXD:=Lib.hid hdo.out;clear how hdo;obtain⟨bx,hbx⟩:∃ g,g=v1.heap.size:=⟨_,rfl⟩;obtain⟨v2,hv2⟩:∃ W,W=v1.alloc (.cells #[.slice Xe xe1 xe2,.slice Xk xk1 xk2,.slice Xc xc1 xc2] 42):=⟨_,rfl⟩
   have hb9:Below v1.heap.size v1 v2:=by rw[hv2];exact Dt.box_below _ _ _
   have b0:v2.cell? ⟨bx,0,none⟩=some (.slice Xe xe1 xe2):=by rw[hv2,hbx];go_simp
   have b1:v2.cell? ⟨bx,1,none⟩=some (.slice Xk xk1 xk2):=by rw[hv2,hbx];go_simp
   have b2:v2.cell? ⟨bx,2,none⟩=some (.slice Xc xc1 xc2):=by rw[hv2,hbx];go_simp
   have HKc:=Lib.hid (HKc.out.later hb9);have R:=Lib.hid (RdT.later R.out hb9);have RX9:=Lib.hid (RX9.out.later hb9);have RP9:=Lib.hid (RP9.out.later hb9);have RX:=Lib.hid (RX.out.later hb9);clear hb9;have HKc:=Lib.hid (((HKc.out.cons_of b2).cons_of b1).cons_of b0);have Hbx:=Lib.hid hbx;have Hv2:=Lib.hid hv2;clear hbx hv2 b0 b1 b2
   by_cases he0:er=0
   ·subst he0
    obtain⟨hd9,hc9⟩:=HXD.out.1 rfl;have HDL:Hid (DeltaOf t ⟨k::l,xa,xs,xv⟩ (a,n) kx):=hd9
    have hchk:checkB t a n=true:=by
     have h:=HER.out;unfold appE at h
     by_cases h1:Tr.rightB 5 t=false
     ·rw[if_pos h1]at h;cases h
     rw[if_neg h1]at h
     by_cases h2:¬opE ⟨k::l,xa,xs,xv⟩=0
     ·rw[if_pos h2]at h;exact absurd h h2
     rw[if_neg h2]at h
     by_cases h3:checkB t a n=false
     ·rw[if_pos h3]at h;cases h
     ·simpa using h3
    have HCK:Hid (Dt.rightB a n=true∧(a,n)∉dl t):=(check_iff.1 hchk).2;have JX:Hid (RK kx):=delta_right HT.out HOK.out HCK.out.1 HDL.out
    have BX:Hid (xc1≤1000):=by unfold Hid;have:=N.out;omega
    have NX:Hid (nodes kx.1≤10):=by
     unfold Hid;rw[HDL.out.tree]
     split
     ·rw[Tr.nodes_wrap,nodes_one]
      have h6:=(end_keys HOK.out).2;omega
     ·rw[nodes_none];omega
    clear hd9 hc9 hchk;obtain⟨u,hu1,hu2⟩:=some_of HT.out L.out (by have:=N.out;omega) R.out;obtain⟨m9,hm9⟩:∃ m9,u.length=m9:=⟨_,rfl⟩;have HU:Hid (OfC (dl t) u∧u.length=m9∧m9≤240):=⟨hu1,hm9,by have:=N.out;omega⟩;clear hu1 hu2 hm9;have JT:Hid (RK (t,u)):=known_right HT.out HU.out.1;obtain⟨c0,c1,c2,c3,c4,c5,c6,c7,c8,c9,c10,-⟩:=HKc.out.cj;rw[Hv2.out]at c0 c1 c2 c3 c4 c5 c6 c7 c8 c9 c10;rw[Hbx.out]at c0 c1 c2;go_wp2_with fail;rw[← Hbx.out,← Hv2.out];clear c0 c1 c2 c3 c4 c5 c6 c7 c8 c9 c10
    go_cut [11,12] (fun s9 e9 wx=>∃ (g9:Nat) (p9:CP),s9 = .pointer (some ⟨g9,0,none⟩)∧e9 = .int .i64 0∧Hid (MidJ v2 g9 p9 wx)∧Hid (IsJ (t,u) kx p9.k))
    case first=>
     refine wp_region_held_drew (S:=Conj _) (by kernel_rfl) HKc.out.drew.cj (fun hHeld=>?_);obtain⟨v3,hv3⟩:∃ v,v=v2.drew:=⟨_,rfl⟩
     have hb9:Below v2.heap.size v2 v3:=by rw[hv3];exact (Below.refl _ _).drew
     have HKc:=Lib.hid (HKc.out.later hb9);have R:=Lib.hid (RdT.later R.out hb9);have RX9:=Lib.hid (RX9.out.later hb9);have RP9:=Lib.hid (RP9.out.later hb9);have RX:=Lib.hid (RX.out.later hb9);clear hb9;have HBV9:Hid (v2.drew=v3):=hv3.symm;rw[← hv3]at hHeld ⊢;clear hv3
     have HBV:Hid (Below v2.heap.size v2 v3):=by unfold Hid;rw[← HBV9.out];exact (Below.refl _ _).drew
     clear HBV9;refine Tk 0 73 ?_;refine Tk 2 75 ?_;refine wpAnyH_ready (rs:=[1,7]) (by kernel_rfl) (by simp) ?_;refine AllReadyH.cons (o:=⟨some 74,_,_,_,_,_⟩) rfl (fun K hK=>?_) (AllReadyH.cons (o:=⟨some 11,_,_,_,_,_⟩) rfl (fun K hK=>?_) (AllReadyH.nil))
     ·go_simp
      (go_at_call 30;refine (refknown_any t Ae Ak ne nk ce ck u m9 v3 HT.out (by have:=N.out;omega) R.out HU.out.1 HU.out.2.1 (by have:=HU.out.2.2;omega)).mono ?_);rintro e v4 ⟨B9,d9,rfl,hro,hb9⟩;have RK9:Hid (RdP v4 ⟨(t,u),⟨Ae,ne,ce⟩,⟨Ak,nk,ck⟩,⟨B9,m9,d9⟩⟩):=⟨RdT.later R.out hb9,HU.out.2.1,hro.rd⟩;clear hro;have HKc:=Lib.hid (HKc.out.later hb9);have R:=Lib.hid (RdT.later R.out hb9);have RX9:=Lib.hid (RX9.out.later hb9);have RP9:=Lib.hid (RP9.out.later hb9);have RX:=Lib.hid (RX.out.later hb9);have HBV:=Lib.hid (HBV.out.trans (hb9.mono HBV.out.size));clear hb9;clear hHeld;refine Th hK ?_ (fun hHeld=>?_)
      ·exact HKc.out.cj
      clear hK K;refine wpAnyH_ready (rs:=[3,7]) (by kernel_rfl) (by simp) ?_;refine AllReadyH.cons (o:=⟨some 76,_,_,_,_,_⟩) rfl (fun K hK=>?_) (AllReadyH.cons (o:=⟨some 11,_,_,_,_,_⟩) rfl (fun K hK=>?_) (AllReadyH.nil))
      ·go_simp
       (go_at_call 29;refine (joinE_any (t,u).1 kx.1 (t,u).2 kx.2 Ae Ak B9 Xe Xk Xc ne nk ce ck m9 d9 xe1 xk1 xe2 xk2 xc1 xc2 v4 (by have:=N.out;show nodes t≤1000;omega) RK9.out.len (by have:=HU.out.2.2;omega) RK9.out.tree RK9.out.ctx (by have:=NX.out;omega) RX.out.len (by have:=BX.out;omega) RX.out.tree RX.out.ctx).mono ?_);rintro e v5 ⟨kj,z9,hj,Je,je1,je2,Jk,jk1,jk2,Jc,jc1,jc2,rfl,how,hb9⟩;obtain⟨rfl,hjj,_⟩:=hj.1 ⟨JT.out,JX.out⟩;have HP:Hid (IsJ (t,u) kx kj):=hjj;have HN:Hid (NoC v5 (fun _=>True) ⟨kj,⟨Je,je1,je2⟩,⟨Jk,jk1,jk2⟩,⟨Jc,jc1,jc2⟩⟩):=NoC.of_own how (fun b hb _=>trivial);clear hj hjj how;have HKc:=Lib.hid (HKc.out.later hb9);have R:=Lib.hid (RdT.later R.out hb9);have RX9:=Lib.hid (RX9.out.later hb9);have RP9:=Lib.hid (RP9.out.later hb9);have RX:=Lib.hid (RX.out.later hb9);have HBV:=Lib.hid (HBV.out.trans (hb9.mono HBV.out.size))
       have RK9:=Lib.hid (RK9.out.later hb9);clear hb9;clear hHeld;refine Th hK ?_ (fun hHeld=>?_)
       ·exact HKc.out.cj
       clear hK K;refine Tk 4 72 ?_;refine Tk 5 77 ?_;refine Tk 6 78 ?_;refine Tc 7 (fun K hK=>?_);go_simp;clear hHeld;refine Th hK ?_ (fun hHeld=>?_)
       ·exact (HKc.out.alloc _).cj
       clear hK K;obtain⟨gj,hgj⟩:∃ g,g=v5.heap.size:=⟨_,rfl⟩;obtain⟨v6,hv6⟩:∃ W,W=v5.alloc (.cells #[.slice none 0 0,.slice none 0 0,.slice none 0 0] 42):=⟨_,rfl⟩
       have hb9:Below v5.heap.size v5 v6:=by rw[hv6];exact Dt.box_below _ _ _
       have hvg:v2.heap.size≤gj:=by rw[hgj];exact HBV.out.size
       have hwg:w.heap.size≤gj:=by rw[hgj];exact HKc.out.below.size
       have hnbx:bx≠gj:=by have h:=World.block_lt_of_cell? v5 _ HKc.out.c0;dsimp only at h;omega
       have hnp:p≠gj:=by have h:=World.block_lt_of_cell? v5 _ HKc.out.c3;dsimp only at h;omega
       have hnq:q≠gj:=by have h:=World.block_lt_of_cell? v5 _ HKc.out.c5;dsimp only at h;omega
       have hns:s≠gj:=by have h:=World.block_lt_of_cell? v5 _ HKc.out.t8.c1;dsimp only at h;omega
       have b0:v6.cell? ⟨gj,0,none⟩=some (.slice none 0 0):=by rw[hv6,hgj];go_simp
       have b1:v6.cell? ⟨gj,1,none⟩=some (.slice none 0 0):=by rw[hv6,hgj];go_simp
       have b2:v6.cell? ⟨gj,2,none⟩=some (.slice none 0 0):=by rw[hv6,hgj];go_simp
       have HN:=Lib.hid (HN.out.mono (ok':=fun b=>b≠gj) (fun b _ hlt=>by omega));have HKc:=Lib.hid (HKc.out.later hb9);have R:=Lib.hid (RdT.later R.out hb9);have RX9:=Lib.hid (RX9.out.later hb9);have RP9:=Lib.hid (RP9.out.later hb9);have RX:=Lib.hid (RX.out.later hb9);have HBV:=Lib.hid (HBV.out.trans (hb9.mono HBV.out.size));have RK9:=Lib.hid (RK9.out.later hb9);have HN:=Lib.hid (HN.out.later hb9);have HZ:=Lib.hid ((((Kept.nil_of HBV.out).cons_of b2).cons_of b1).cons_of b0);have HF:Hid (Free gj v6):=⟨by rw[hv6,hgj];simp,fun j=>by rw[hv6,hgj];go_simp⟩;have hlt9:gj<v6.heap.size:=HF.out.1;(try rw[← hv6]at hHeld);rw[← hv6];rw[← hgj];clear hgj hv6 hb9 b0 b1 b2;obtain⟨z0,z1,z2,-⟩:=HZ.out.cj;have m0:=HF.out.2 0;have m1:=HF.out.2 1;have m2:=HF.out.2 2;refine Tc 8 (fun K hK=>?_);go_simp;refine Th hK ?_ (fun hHeld2=>?_)
       ·(try dsimp only)
        have h9:=HKc.out.st3 (g:=gj) hwg (fun x hx=>by simp at hx;rcases hx with rfl | rfl | rfl | rfl | rfl | rfl | rfl | rfl | rfl | rfl | rfl <;> (dsimp only;omega)) (.slice Je je1 je2) (.slice Jk jk1 jk2) (.slice Jc jc1 jc2)
        exact h9.cj
       clear hK K hHeld;have hHeld:=hHeld2;clear hHeld2;refine Tk 9 12 ?_;refine wpAnyH_done (by kernel_rfl) ?_ _;clear hHeld
       have HMID:Hid (MidJ v2 gj ⟨kj,⟨Je,je1,je2⟩,⟨Jk,jk1,jk2⟩,⟨Jc,jc1,jc2⟩⟩ (((v6.setCell ⟨gj,0,none⟩ (.slice Je je1 je2)).setCell ⟨gj,1,none⟩ (.slice Jk jk1 jk2)).setCell ⟨gj,2,none⟩ (.slice Jc jc1 jc2))):=by
        obtain⟨W9,hW9⟩:∃ W,W=(((v6.setCell ⟨gj,0,none⟩ (.slice Je je1 je2)).setCell ⟨gj,1,none⟩ (.slice Jk jk1 jk2)).setCell ⟨gj,2,none⟩ (.slice Jc jc1 jc2)):=⟨_,rfl⟩;rw[← hW9]
        have hb:Below v2.heap.size v2 W9:=by
         rw[hW9];exact (((HBV.out.setCell (p:=⟨gj,0,none⟩) hvg _).setCell (p:=⟨gj,1,none⟩) hvg _).setCell (p:=⟨gj,2,none⟩) hvg _)
        refine⟨(HN.out.keep (by rw[hW9,cells3];exact Nat.le_refl _) (fun b hb _=>by rw[hW9];exact cells3_at b hb)).rd,?_⟩
        refine (((Kept.nil_of hb).cons_of ?_).cons_of ?_).cons_of ?_ <;> (rw[hW9];go_simp)
       clear z0 z1 z2 m0 m1 m2;go_wp2_with fail;go_meet;exact⟨gj,⟨kj,⟨Je,je1,je2⟩,⟨Jk,jk1,jk2⟩,⟨Jc,jc1,jc2⟩⟩,rfl,rfl,HMID.out,HP.out⟩
      ·go_simp
       clear hHeld;refine Th hK ?_ (fun hHeld=>?_)
       ·exact (HKc.out.alloc _).cj
       clear hK K;obtain⟨gj,hgj⟩:∃ g,g=v4.heap.size:=⟨_,rfl⟩;obtain⟨v5,hv5⟩:∃ W,W=v4.alloc (.cells #[.slice none 0 0,.slice none 0 0,.slice none 0 0] 42):=⟨_,rfl⟩
       have hb9:Below v4.heap.size v4 v5:=by rw[hv5];exact Dt.box_below _ _ _
       have hvg:v2.heap.size≤gj:=by rw[hgj];exact HBV.out.size
       have hwg:w.heap.size≤gj:=by rw[hgj];exact HKc.out.below.size
       have hnbx:bx≠gj:=by have h:=World.block_lt_of_cell? v4 _ HKc.out.c0;dsimp only at h;omega
       have hnp:p≠gj:=by have h:=World.block_lt_of_cell? v4 _ HKc.out.c3;dsimp only at h;omega
       have hnq:q≠gj:=by have h:=World.block_lt_of_cell? v4 _ HKc.out.c5;dsimp only at h;omega
       have hns:s≠gj:=by have h:=World.block_lt_of_cell? v4 _ HKc.out.t8.c1;dsimp only at h;omega
       have b0:v5.cell? ⟨gj,0,none⟩=some (.slice none 0 0):=by rw[hv5,hgj];go_simp
       have b1:v5.cell? ⟨gj,1,none⟩=some (.slice none 0 0):=by rw[hv5,hgj];go_simp
       have b2:v5.cell? ⟨gj,2,none⟩=some (.slice none 0 0):=by rw[hv5,hgj];go_simp
       have HKc:=Lib.hid (HKc.out.later hb9);have R:=Lib.hid (RdT.later R.out hb9);have RX9:=Lib.hid (RX9.out.later hb9);have RP9:=Lib.hid (RP9.out.later hb9);have RX:=Lib.hid (RX.out.later hb9);have HBV:=Lib.hid (HBV.out.trans (hb9.mono HBV.out.size));have RK9:=Lib.hid (RK9.out.later hb9);have HZ:=Lib.hid ((((Kept.nil_of HBV.out).cons_of b2).cons_of b1).cons_of b0);have HF:Hid (Free gj v5):=⟨by rw[hv5,hgj];simp,fun j=>by rw[hv5,hgj];go_simp⟩;have hlt9:gj<v5.heap.size:=HF.out.1;(try rw[← hv5]at hHeld);rw[← hv5];rw[← hgj];clear hgj hv5 hb9 b0 b1 b2;refine Tc 3 (fun K hK=>?_);go_simp;(go_at_call 29;refine (joinE_any (t,u).1 kx.1 (t,u).2 kx.2 Ae Ak B9 Xe Xk Xc ne nk ce ck m9 d9 xe1 xk1 xe2 xk2 xc1 xc2 v5 (by have:=N.out;show nodes t≤1000;omega) RK9.out.len (by have:=HU.out.2.2;omega) RK9.out.tree RK9.out.ctx (by have:=NX.out;omega) RX.out.len (by have:=BX.out;omega) RX.out.tree RX.out.ctx).mono ?_)
       rintro e v6 ⟨kj,z9,hj,Je,je1,je2,Jk,jk1,jk2,Jc,jc1,jc2,rfl,how,hb9⟩;obtain⟨rfl,hjj,_⟩:=hj.1 ⟨JT.out,JX.out⟩;have HP:Hid (IsJ (t,u) kx kj):=hjj;have HN:Hid (NoC v6 (fun b=>b≠gj) ⟨kj,⟨Je,je1,je2⟩,⟨Jk,jk1,jk2⟩,⟨Jc,jc1,jc2⟩⟩):=NoC.of_own how (fun b hb _=>by have h:=HF.out.1;omega);clear hj hjj how;have HKc:=Lib.hid (HKc.out.later hb9);have R:=Lib.hid (RdT.later R.out hb9);have RX9:=Lib.hid (RX9.out.later hb9);have RP9:=Lib.hid (RP9.out.later hb9);have RX:=Lib.hid (RX.out.later hb9);have HBV:=Lib.hid (HBV.out.trans (hb9.mono HBV.out.size));have RK9:=Lib.hid (RK9.out.later hb9);have HZ:=Lib.hid (HZ.out.later hb9);have HF:=Lib.hid (HF.out.later hb9);clear hb9;obtain⟨z0,z1,z2,-⟩:=HZ.out.cj;have m0:=HF.out.2 0;have m1:=HF.out.2 1;have m2:=HF.out.2 2;clear hHeld;refine Th hK ?_ (fun hHeld=>?_)
       ·exact HKc.out.cj
       clear hK K;refine Tk 4 72 ?_;refine Tk 5 77 ?_;refine Tk 6 78 ?_;refine Tc 8 (fun K hK=>?_);go_simp;refine Th hK ?_ (fun hHeld2=>?_)
       ·(try dsimp only)
        have h9:=HKc.out.st3 (g:=gj) hwg (fun x hx=>by simp at hx;rcases hx with rfl | rfl | rfl | rfl | rfl | rfl | rfl | rfl | rfl | rfl | rfl <;> (dsimp only;omega)) (.slice Je je1 je2) (.slice Jk jk1 jk2) (.slice Jc jc1 jc2)
        exact h9.cj
       clear hK K hHeld;have hHeld:=hHeld2;clear hHeld2;refine Tk 9 12 ?_;refine wpAnyH_done (by kernel_rfl) ?_ _;clear hHeld
       have HMID:Hid (MidJ v2 gj ⟨kj,⟨Je,je1,je2⟩,⟨Jk,jk1,jk2⟩,⟨Jc,jc1,jc2⟩⟩ (((v6.setCell ⟨gj,0,none⟩ (.slice Je je1 je2)).setCell ⟨gj,1,none⟩ (.slice Jk jk1 jk2)).setCell ⟨gj,2,none⟩ (.slice Jc jc1 jc2))):=by
        obtain⟨W9,hW9⟩:∃ W,W=(((v6.setCell ⟨gj,0,none⟩ (.slice Je je1 je2)).setCell ⟨gj,1,none⟩ (.slice Jk jk1 jk2)).setCell ⟨gj,2,none⟩ (.slice Jc jc1 jc2)):=⟨_,rfl⟩;rw[← hW9]
        have hb:Below v2.heap.size v2 W9:=by
         rw[hW9];exact (((HBV.out.setCell (p:=⟨gj,0,none⟩) hvg _).setCell (p:=⟨gj,1,none⟩) hvg _).setCell (p:=⟨gj,2,none⟩) hvg _)
        refine⟨(HN.out.keep (by rw[hW9,cells3];exact Nat.le_refl _) (fun b hb _=>by rw[hW9];exact cells3_at b hb)).rd,?_⟩
        refine (((Kept.nil_of hb).cons_of ?_).cons_of ?_).cons_of ?_ <;> (rw[hW9];go_simp)
       clear z0 z1 z2 m0 m1 m2;go_wp2_with fail;go_meet;exact⟨gj,⟨kj,⟨Je,je1,je2⟩,⟨Jk,jk1,jk2⟩,⟨Jc,jc1,jc2⟩⟩,rfl,rfl,HMID.out,HP.out⟩
     ·go_simp
      clear hHeld;refine Th hK ?_ (fun hHeld=>?_)
      ·exact (HKc.out.alloc _).cj
      clear hK K;obtain⟨gj,hgj⟩:∃ g,g=v3.heap.size:=⟨_,rfl⟩;obtain⟨v4,hv4⟩:∃ W,W=v3.alloc (.cells #[.slice none 0 0,.slice none 0 0,.slice none 0 0] 42):=⟨_,rfl⟩
      have hb9:Below v3.heap.size v3 v4:=by rw[hv4];exact Dt.box_below _ _ _
      have hvg:v2.heap.size≤gj:=by rw[hgj];exact HBV.out.size
      have hwg:w.heap.size≤gj:=by rw[hgj];exact HKc.out.below.size
      have hnbx:bx≠gj:=by have h:=World.block_lt_of_cell? v3 _ HKc.out.c0;dsimp only at h;omega
      have hnp:p≠gj:=by have h:=World.block_lt_of_cell? v3 _ HKc.out.c3;dsimp only at h;omega
      have hnq:q≠gj:=by have h:=World.block_lt_of_cell? v3 _ HKc.out.c5;dsimp only at h;omega
      have hns:s≠gj:=by have h:=World.block_lt_of_cell? v3 _ HKc.out.t8.c1;dsimp only at h;omega
      have b0:v4.cell? ⟨gj,0,none⟩=some (.slice none 0 0):=by rw[hv4,hgj];go_simp
      have b1:v4.cell? ⟨gj,1,none⟩=some (.slice none 0 0):=by rw[hv4,hgj];go_simp
      have b2:v4.cell? ⟨gj,2,none⟩=some (.slice none 0 0):=by rw[hv4,hgj];go_simp
      have HKc:=Lib.hid (HKc.out.later hb9);have R:=Lib.hid (RdT.later R.out hb9);have RX9:=Lib.hid (RX9.out.later hb9);have RP9:=Lib.hid (RP9.out.later hb9);have RX:=Lib.hid (RX.out.later hb9);have HBV:=Lib.hid (HBV.out.trans (hb9.mono HBV.out.size));have HZ:=Lib.hid ((((Kept.nil_of HBV.out).cons_of b2).cons_of b1).cons_of b0);have HF:Hid (Free gj v4):=⟨by rw[hv4,hgj];simp,fun j=>by rw[hv4,hgj];go_simp⟩;have hlt9:gj<v4.heap.size:=HF.out.1;(try rw[← hv4]at hHeld);rw[← hv4];rw[← hgj];clear hgj hv4 hb9 b0 b1 b2;refine Tc 1 (fun K hK=>?_);go_simp;(go_at_call 30;refine (refknown_any t Ae Ak ne nk ce ck u m9 v4 HT.out (by have:=N.out;omega) R.out HU.out.1 HU.out.2.1 (by have:=HU.out.2.2;omega)).mono ?_);rintro e v5 ⟨B9,d9,rfl,hro,hb9⟩;have RK9:Hid (RdP v5 ⟨(t,u),⟨Ae,ne,ce⟩,⟨Ak,nk,ck⟩,⟨B9,m9,d9⟩⟩):=⟨RdT.later R.out hb9,HU.out.2.1,hro.rd⟩
      clear hro;have HKc:=Lib.hid (HKc.out.later hb9);have R:=Lib.hid (RdT.later R.out hb9);have RX9:=Lib.hid (RX9.out.later hb9);have RP9:=Lib.hid (RP9.out.later hb9);have RX:=Lib.hid (RX.out.later hb9);have HBV:=Lib.hid (HBV.out.trans (hb9.mono HBV.out.size));have HZ:=Lib.hid (HZ.out.later hb9);have HF:=Lib.hid (HF.out.later hb9);clear hb9;clear hHeld;refine Th hK ?_ (fun hHeld=>?_)
      ·exact HKc.out.cj
      clear hK K;refine Tc 3 (fun K hK=>?_);go_simp;(go_at_call 29;refine (joinE_any (t,u).1 kx.1 (t,u).2 kx.2 Ae Ak B9 Xe Xk Xc ne nk ce ck m9 d9 xe1 xk1 xe2 xk2 xc1 xc2 v5 (by have:=N.out;show nodes t≤1000;omega) RK9.out.len (by have:=HU.out.2.2;omega) RK9.out.tree RK9.out.ctx (by have:=NX.out;omega) RX.out.len (by have:=BX.out;omega) RX.out.tree RX.out.ctx).mono ?_);rintro e v6 ⟨kj,z9,hj,Je,je1,je2,Jk,jk1,jk2,Jc,jc1,jc2,rfl,how,hb9⟩;obtain⟨rfl,hjj,_⟩:=hj.1 ⟨JT.out,JX.out⟩;have HP:Hid (IsJ (t,u) kx kj):=hjj;have HN:Hid (NoC v6 (fun b=>b≠gj) ⟨kj,⟨Je,je1,je2⟩,⟨Jk,jk1,jk2⟩,⟨Jc,jc1,jc2⟩⟩):=NoC.of_own how (fun b hb _=>by have h:=HF.out.1;omega);clear hj hjj how;have HKc:=Lib.hid (HKc.out.later hb9);have R:=Lib.hid (RdT.later R.out hb9);have RX9:=Lib.hid (RX9.out.later hb9);have RP9:=Lib.hid (RP9.out.later hb9)
      have RX:=Lib.hid (RX.out.later hb9);have HBV:=Lib.hid (HBV.out.trans (hb9.mono HBV.out.size));have HZ:=Lib.hid (HZ.out.later hb9);have HF:=Lib.hid (HF.out.later hb9);have RK9:=Lib.hid (RK9.out.later hb9);clear hb9;obtain⟨z0,z1,z2,-⟩:=HZ.out.cj;have m0:=HF.out.2 0;have m1:=HF.out.2 1;have m2:=HF.out.2 2;clear hHeld;refine Th hK ?_ (fun hHeld=>?_)
      ·exact HKc.out.cj
      clear hK K;refine Tk 4 72 ?_;refine Tk 5 77 ?_;refine Tk 6 78 ?_;refine Tc 8 (fun K hK=>?_);go_simp;refine Th hK ?_ (fun hHeld2=>?_)
      ·(try dsimp only)
       have h9:=HKc.out.st3 (g:=gj) hwg (fun x hx=>by simp at hx;rcases hx with rfl | rfl | rfl | rfl | rfl | rfl | rfl | rfl | rfl | rfl | rfl <;> (dsimp only;omega)) (.slice Je je1 je2) (.slice Jk jk1 jk2) (.slice Jc jc1 jc2)
       exact h9.cj
      clear hK K hHeld;have hHeld:=hHeld2;clear hHeld2;refine Tk 9 12 ?_;refine wpAnyH_done (by kernel_rfl) ?_ _;clear hHeld
      have HMID:Hid (MidJ v2 gj ⟨kj,⟨Je,je1,je2⟩,⟨Jk,jk1,jk2⟩,⟨Jc,jc1,jc2⟩⟩ (((v6.setCell ⟨gj,0,none⟩ (.slice Je je1 je2)).setCell ⟨gj,1,none⟩ (.slice Jk jk1 jk2)).setCell ⟨gj,2,none⟩ (.slice Jc jc1 jc2))):=by
       obtain⟨W9,hW9⟩:∃ W,W=(((v6.setCell ⟨gj,0,none⟩ (.slice Je je1 je2)).setCell ⟨gj,1,none⟩ (.slice Jk jk1 jk2)).setCell ⟨gj,2,none⟩ (.slice Jc jc1 jc2)):=⟨_,rfl⟩;rw[← hW9]
       have hb:Below v2.heap.size v2 W9:=by
        rw[hW9];exact (((HBV.out.setCell (p:=⟨gj,0,none⟩) hvg _).setCell (p:=⟨gj,1,none⟩) hvg _).setCell (p:=⟨gj,2,none⟩) hvg _)
       refine⟨(HN.out.keep (by rw[hW9,cells3];exact Nat.le_refl _) (fun b hb _=>by rw[hW9];exact cells3_at b hb)).rd,?_⟩
       refine (((Kept.nil_of hb).cons_of ?_).cons_of ?_).cons_of ?_ <;> (rw[hW9];go_simp)
      clear z0 z1 z2 m0 m1 m2;go_wp2_with fail;go_meet;exact⟨gj,⟨kj,⟨Je,je1,je2⟩,⟨Jk,jk1,jk2⟩,⟨Jc,jc1,jc2⟩⟩,rfl,rfl,HMID.out,HP.out⟩
    case rest=>
     obtain⟨wcgj,hwcgj⟩:∃ W,W=wc:=⟨_,rfl⟩;subst hwcgj;obtain⟨gj,⟨kj,⟨Je,je1,je2⟩,⟨Jk,jk1,jk2⟩,⟨Jc,jc1,jc2⟩⟩,rfl,rfl,hmid,hprop⟩:=hcut;obtain⟨hrp,hkp⟩:=hmid.out;have hb9:=hkp.below;have HKc:=Lib.hid (HKc.out.later hb9);have R:=Lib.hid (RdT.later R.out hb9);have RX9:=Lib.hid (RX9.out.later hb9);have RP9:=Lib.hid (RP9.out.later hb9);have RX:=Lib.hid (RX.out.later hb9);clear hb9;have RJ:=Lib.hid hrp;have PJ:Hid (IsJ (t,u) kx kj):=hprop.out;have HKc:=Lib.hid ((((HKc.out.cons_of hkp.c2).cons_of hkp.c1).cons_of hkp.c0));clear hmid hprop hrp hkp
     have NJ:Hid (nodes kj.1≤70):=by
      have h1:=PJ.out
      have h2:nodes kj.1≤nodes t+nodes kx.1:=by
       rw[h1.tree];exact joinT_nodes _ _ _ _ _
      have h3:=N.out;have h4:=NX.out;unfold Hid;omega
     have RJK:Hid (RK kj):=PJ.out.right JT.out JX.out
     have HKID:Hid (getT kj.1 (k0::l0)=getT t (k0::l0)):=by
      have h:=op_apart (k:=k) (k0:=k0) (l:=l) HT.out HU.out.1 HON.out HOK.out HCK.out.1 HDL.out JX.out HCK.out.2 PJ.out rfl HNE.out;show getT (kidAt kj.1.ks k0) l0=getT (kidAt t.ks k0) l0;rw[h]
     obtain⟨er,her⟩:∃ e,readE t (k0::l0)=e:=⟨_,rfl⟩
     obtain⟨v,hv0,hv1,hv2⟩:∃ v:Vw,(er=0→ReadOk (getT t (k0::l0)) (lastK (k0::l0)) v)∧(¬er=0→v=zeroV)∧v.l.length≤240:=by
      by_cases h0:er=0
      ·obtain⟨v,h1,h2⟩:=read_ex (getT t (k0::l0)) (lastK (k0::l0))
       exact⟨v,fun _=>h1,fun h=>absurd h0 h,Nat.le_trans h2 (Nat.le_trans (nodes_getT t (k0::l0)) (by have:=N.out;omega))⟩
      ·exact⟨zeroV,fun h=>absurd h h0,fun _=>rfl,Nat.zero_le _⟩
     have HERR:=Lib.hid her;have HV:=Lib.hid (And.intro hv0 (And.intro hv1 hv2));clear her hv0 hv1 hv2
     have HER2:Hid (readE kj.1 (k0::l0)=er):=by
      have h:=HERR.out;unfold Hid;rw[← h];unfold readE;rw[Tr.rightB_iff.2 HT.out,Tr.rightB_iff.2 RJK.out.tree]
     obtain⟨c0,c1,c2,c3,c4,c5,c6,c7,c8,c9,c10,c11,c12,c13,-⟩:=HKc.out.cj;go_wp2_with fail;refine (oread_any t Ae Ak ne nk ce ck (k0::l0) PA pn pc v er wcgj HERR.out HV.out.1 HV.out.2.1 L.out (by have:=N.out;omega) R.out (by have:=N.out;omega) (by have:=HPX.out;omega) RP9.out (by have:=HV.out.2.2;omega)).mono ?_;rintro e v3 ⟨XA,Xc,rfl,hrd,hb9⟩;have HKc:=Lib.hid (HKc.out.later hb9);have R:=Lib.hid (RdT.later R.out hb9);have RX9:=Lib.hid (RX9.out.later hb9);have RP9:=Lib.hid (RP9.out.later hb9);have RX:=Lib.hid (RX.out.later hb9);have RJ:=Lib.hid (RJ.out.later hb9);clear hb9;clear c0 c1 c2 c3 c4 c5 c6 c7 c8 c9 c10 c11 c12 c13;have RXV:=Lib.hid hrd.out;clear hrd;obtain⟨gv,hgv⟩:∃ g,g=v3.heap.size:=⟨_,rfl⟩;obtain⟨v4,hv4⟩:∃ W,W=v3.alloc (.cells #[.int .i64 v.kd,.bool v.on,.int .i64 v.n,.slice XA v.l.length Xc] 51):=⟨_,rfl⟩
     have hb9:Below v3.heap.size v3 v4:=by rw[hv4];exact Dt.box_below _ _ _
     have b0:v4.cell? ⟨gv,0,none⟩=some (.int .i64 v.kd):=by rw[hv4,hgv];go_simp
     have b1:v4.cell? ⟨gv,1,none⟩=some (.bool v.on):=by rw[hv4,hgv];go_simp
     have b2:v4.cell? ⟨gv,2,none⟩=some (.int .i64 v.n):=by rw[hv4,hgv];go_simp
     have b3:v4.cell? ⟨gv,3,none⟩=some (.slice XA v.l.length Xc):=by rw[hv4,hgv];go_simp
     have HKc:=Lib.hid (HKc.out.later hb9);have R:=Lib.hid (RdT.later R.out hb9);have RX9:=Lib.hid (RX9.out.later hb9);have RP9:=Lib.hid (RP9.out.later hb9);have RX:=Lib.hid (RX.out.later hb9);have RJ:=Lib.hid (RJ.out.later hb9);have RXV:=Lib.hid (RXV.out.later hb9);clear hb9;have HKc:=Lib.hid ((((HKc.out.cons_of b3).cons_of b2).cons_of b1).cons_of b0);have Hgv:=Lib.hid hgv;have Hv4:=Lib.hid hv4;clear hgv hv4 b0 b1 b2 b3;obtain⟨c0,c1,c2,c3,c4,c5,c6,c7,c8,c9,c10,c11,c12,c13,c14,c15,c16,c17,-⟩:=HKc.out.cj;rw[Hv4.out]at c0 c1 c2 c3 c4 c5 c6 c7 c8 c9 c10 c11 c12 c13 c14 c15 c16 c17;rw[Hgv.out]at c0 c1 c2 c3;go_wp2_with fail;rw[← Hgv.out,← Hv4.out];refine (oread_any kj.1 Je Jk je1 jk1 je2 jk2 (k0::l0) PA pn pc v er v4 HER2.out (fun h=>by rw[HKID.out];exact HV.out.1 h) HV.out.2.1 (LenT.few (by have:=NJ.out;omega)) (by have:=NJ.out;omega) RJ.out.tree (by have:=NJ.out;omega) (by have:=HPX.out;omega) RP9.out (by have:=HV.out.2.2;omega)).mono ?_
     rintro e v5 ⟨YA,Yc,rfl,hrd,hb9⟩;have HKc:=Lib.hid (HKc.out.later hb9);have R:=Lib.hid (RdT.later R.out hb9);have RX9:=Lib.hid (RX9.out.later hb9);have RP9:=Lib.hid (RP9.out.later hb9);have RX:=Lib.hid (RX.out.later hb9);have RJ:=Lib.hid (RJ.out.later hb9);have RXV:=Lib.hid (RXV.out.later hb9);clear hb9;clear c0 c1 c2 c3 c4 c5 c6 c7 c8 c9 c10 c11 c12 c13 c14 c15 c16 c17;have RYV:=Lib.hid hrd.out;clear hrd;obtain⟨gu,hgu⟩:∃ g,g=v5.heap.size:=⟨_,rfl⟩;obtain⟨v6,hv6⟩:∃ W,W=v5.alloc (.cells #[.int .i64 v.kd,.bool v.on,.int .i64 v.n,.slice YA v.l.length Yc] 51):=⟨_,rfl⟩
     have hb9:Below v5.heap.size v5 v6:=by rw[hv6];exact Dt.box_below _ _ _
     have b0:v6.cell? ⟨gu,0,none⟩=some (.int .i64 v.kd):=by rw[hv6,hgu];go_simp
     have b1:v6.cell? ⟨gu,1,none⟩=some (.bool v.on):=by rw[hv6,hgu];go_simp
     have b2:v6.cell? ⟨gu,2,none⟩=some (.int .i64 v.n):=by rw[hv6,hgu];go_simp
     have b3:v6.cell? ⟨gu,3,none⟩=some (.slice YA v.l.length Yc):=by rw[hv6,hgu];go_simp
     have HKc:=Lib.hid (HKc.out.later hb9);have R:=Lib.hid (RdT.later R.out hb9);have RX9:=Lib.hid (RX9.out.later hb9);have RP9:=Lib.hid (RP9.out.later hb9);have RX:=Lib.hid (RX.out.later hb9);have RJ:=Lib.hid (RJ.out.later hb9);have RXV:=Lib.hid (RXV.out.later hb9);have RYV:=Lib.hid (RYV.out.later hb9);clear hb9;have HKc:=Lib.hid ((((HKc.out.cons_of b3).cons_of b2).cons_of b1).cons_of b0);have Hgu:=Lib.hid hgu;have Hv6:=Lib.hid hv6;clear hgu hv6 b0 b1 b2 b3;obtain⟨c0,c1,c2,c3,c4,c5,c6,c7,c8,c9,c10,c11,c12,c13,c14,c15,c16,c17,c18,c19,c20,c21,-⟩:=HKc.out.cj;rw[Hv6.out]at c0 c1 c2 c3 c4 c5 c6 c7 c8 c9 c10 c11 c12 c13 c14 c15 c16 c17 c18 c19 c20 c21;rw[Hgu.out]at c0 c1 c2 c3;go_wp2_with fail;rw[← Hgu.out,← Hv6.out];refine (refsameV_any v.kd v.n v.kd v.n v.on v.on v.l v.l XA YA v.l.length Xc v.l.length Yc v6 true (decide_eq_true ⟨rfl,rfl,rfl,rfl⟩) (by have:=HV.out.2.2;omega) RXV.out RYV.out).mono ?_
     rintro e v7 ⟨rfl,hb9⟩;have HKc:=Lib.hid (HKc.out.later hb9);have R:=Lib.hid (RdT.later R.out hb9);have RX9:=Lib.hid (RX9.out.later hb9);have RP9:=Lib.hid (RP9.out.later hb9);have RX:=Lib.hid (RX.out.later hb9);have RJ:=Lib.hid (RJ.out.later hb9);have RXV:=Lib.hid (RXV.out.later hb9);have RYV:=Lib.hid (RYV.out.later hb9);clear hb9;clear c0 c1 c2 c3 c4 c5 c6 c7 c8 c9 c10 c11 c12 c13 c14 c15 c16 c17 c18 c19 c20 c21;go_wp2_with fail;go_ret;exact⟨by first | rfl | simp,HKc.out.below⟩
   ·have f0:(er != 0)=true:=by simpa using he0
    have HKX:Hid (kx=noneK):=HXD.out.2 he0;clear he0;have hkx:=HKX.out;obtain rfl:=hkx;obtain⟨c0,c1,c2,c3,c4,c5,c6,c7,c8,c9,c10,-⟩:=HKc.out.cj;rw[Hv2.out]at c0 c1 c2 c3 c4 c5 c6 c7 c8 c9 c10;rw[Hbx.out]at c0 c1 c2;go_wp2_with fail;rw[← Hbx.out,← Hv2.out];refine (refsameK_any noneK.1 none_ noneK.2 [] Xe Xk Xc none none none xe1 xk1 xe2 xk2 xc1 xc2 0 0 0 0 0 0 v2 true (decide_eq_true rfl) (by show nodes none_≤_;rw[nodes_none];omega) RX.out.len (by have h:=RX.out.len;have h2:noneK.2.length=0:=rfl;dsimp only at h;omega) RX.out.tree RX.out.ctx rfl (RdP.zero _).tree (RdP.zero _).ctx).mono ?_;rintro e v3 ⟨rfl,hb9⟩;have HKc:=Lib.hid (HKc.out.later hb9);have R:=Lib.hid (RdT.later R.out hb9);have RX9:=Lib.hid (RX9.out.later hb9);have RP9:=Lib.hid (RP9.out.later hb9);have RX:=Lib.hid (RX.out.later hb9);clear hb9;clear c0 c1 c2 c3 c4 c5 c6 c7 c8 c9 c10
    go_wp2_with fail;go_ret;exact⟨by first | rfl | simp,HKc.out.below⟩
set_option maxRecDepth 100000 in
theorem lifted (os:Os) (started:os.Started) (H:Type) (enc:TypeId×Value→H) :
  ReturnsInHanded {} Tryz.checked os 8 .any (Rows.opApartSpec.pre6 enc Tryz.prog Tryz.f8 Rows.opApartRow.domain false) (Rows.opApartSpec.post enc Tryz.prog Tryz.f8 false true false false):=by
 refine returnsInHanded_of_change_sized (C:=Tryz.checked) own started (by kernel_rfl) Tryz.func8
  (ChangeSpec.witness6 (enc:=enc) (C:=Tryz.checked) false ⟨#[],#[.agg #[.slice none 0 0,.slice none 0 0],.agg #[.slice none 0 0,.int .i64 0,.string ByteArray.empty,.int .i64 0],.agg #[.int .i64 0,.int .i64 0],.slice none 0 0],[]⟩ 8 (by kernel_rfl) (by kernel_rfl) (by kernel_rfl) (by kernel_rfl)) ?_
 intro W base args ds gs before hval0 hW _ hsz0 _;have hval:∀ (j:Nat) t v,Tryz.f8.params[j]?=some t→args[j]?=some v→Value.okWide Tryz.prog W .any base t v:=hval0;have hW':=hW;obtain⟨p,q,hA0,hV,rfl,hfz,hnd⟩:=hW;have hA:DataW.TrodAll enc Tryz.prog W 0 (fun _=>true) true Tryz.f8.params.toList args.toList ds p:=hA0;rw[Tryz.params8]at hA hval;obtain⟨v0,v1,v2,v3,d0,d1,d2,d3,p0,p1,p2,p3,rfl,rfl,rfl,h0,h1,h2,h3⟩:=trodAll_four hA;obtain⟨rfl,rfl⟩:=trodVars_none hV;have hsz:(DataW.weightsEach Tryz.prog (35::27::37::25::_) (d0::d1::d2::d3::_)).all (· ≤ reachBytes)=true:=hsz0;obtain⟨hw0,hsz⟩:=Tr.weights_head hsz;obtain⟨t0,ae0,ak0,ne0,nk0,ce0,ck0,rfl,hr0,hl0⟩:=Tr.treeV_of_trod (hval 0 35 v0 rfl rfl) h0 hw0
 obtain⟨cs1,rfl⟩:∃ cs,v1 = .agg cs:=by
  have h:=hval 1 27 v1 rfl rfl;simp only[Value.okWide,Tryz.underlying27]at h;obtain⟨cs,h1,_⟩:=h;exact⟨cs,h1⟩
 obtain⟨f1,hf1⟩:=h1;obtain⟨cs1⟩:=cs1;obtain⟨A1,n1,c1,⟨xp1,xa1,xs1,xv1⟩,he1,hp1⟩:=Cs.op_of_trod hf1;obtain rfl:cs1=_:=he1;obtain⟨da2,dn2,rfl,_,_⟩:=Dt.dot_of_trod (hval 2 37 v2 rfl rfl) h2;obtain⟨A3,n3,c3,rfl⟩:=okWide_slice Tryz.underlying25 (hval 3 25 v3 rfl rfl);obtain⟨f3,hf3⟩:=h3;obtain⟨l3,_,hp3,_⟩:=Tr.strs_of_trod hf3;refine (walk_any t0 ae0 ak0 ne0 nk0 ce0 ck0 xp1 xa1 xs1 xv1 A1 n1 c1 da2 dn2 l3 n3 A3 c3 W hr0 hl0 hp1 hp3).mono fun e W' ⟨he,hb⟩=>?_;subst he;exact⟨_,rfl,law_post hW' (by kernel_rfl) rfl rfl rfl hb⟩
theorem proved:Rows.OpApartSaid:=
 OpenClaim.holds_of_wide 8 Tryz.f8 rfl rfl rfl rfl rfl rfl rfl ⟨rfl,rfl,rfl,rfl,rfl⟩ rfl rfl rfl rfl rfl (by kernel_rfl) Tryz.func8 (by kernel_rfl)
  (of_decide_eq_true (by kernel_rfl)) (by unfold Func.isWrapper;first | (rw[if_pos (by decide +kernel)];kernel_rfl) | (rw[if_neg (by decide +kernel)];exact⟨rfl,rfl⟩))
  (fun os started H enc _=>lifted os started H enc)
#print axioms proved
end lawOpApart
end Go.Proofs.YtgeafpaognhokaaGreat
