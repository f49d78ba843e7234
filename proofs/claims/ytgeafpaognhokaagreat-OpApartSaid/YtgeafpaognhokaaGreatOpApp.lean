/- Changes: a change of a tree: the program's. -/
import Derived.Test.YtgeafpaognhokaaGreatG00
import Derived.Test.YtgeafpaognhokaaGreatG80
import Derived.Test.YtgeafpaognhokaaGreatOpChg
import Derived.Test.YtgeafpaognhokaaGreatG70
import Derived.Test.YtgeafpaognhokaaGreatG60
import Derived.Test.YtgeafpaognhokaaGreatTreeRight
namespace Go.Proofs.YtgeafpaognhokaaGreat
open Go.ChangeShapes Go.WideShapes Go.ChangeAt Go.RowKit Go.Shelf
namespace Cs
open Tr Cx Sp Rw Classical
attribute [local go_sem] Oper.semAt_some
theorem boxApp (w:World) (Ae Ak:Option Addr) (ne nk ce ck:Nat) (xA:Option Addr) (xn xc:Nat) (xa:Int) (xs:ByteArray) (xv a n:Int):∃ (W:World) (p q s r g:Nat),Hid (W=((((w.alloc (.cells #[.slice Ae ne ce,.slice Ak nk ck] 35)).alloc (.cells #[.slice xA xn xc,.int .i64 xa,.string xs,.int .i64 xv] 27)).alloc (.cells #[.int .i64 a,.int .i64 n] 37)).alloc (.cells #[.slice none 0 0,.slice none 0 0,.slice none 0 0] 42)).alloc (.cells #[.int .i64 0] 43))∧Hid (p=w.heap.size)∧Hid (q=p+1)∧Hid (s=p+1+1)∧Hid (r=p+1+1+1)∧Hid (g=p+1+1+1+1)∧Hid (Kept [(⟨p,0,none⟩,.slice Ae ne ce),(⟨p,1,none⟩,.slice Ak nk ck),(⟨q,0,none⟩,.slice xA xn xc),(⟨q,1,none⟩,.int .i64 xa),(⟨q,2,none⟩,.string xs),(⟨q,3,none⟩,.int .i64 xv),(⟨s,0,none⟩,.int .i64 a),(⟨s,1,none⟩,.int .i64 n)] w W)∧Hid (Kept [(⟨r,0,none⟩,.slice none 0 0),(⟨r,1,none⟩,.slice none 0 0),(⟨r,2,none⟩,.slice none 0 0),(⟨g,0,none⟩,.int .i64 0)] w W)∧Hid (Free r W)∧Hid (Free g W):=by
 refine⟨_,_,_,_,_,_,rfl,rfl,rfl,rfl,rfl,rfl,?_,?_,⟨by simp,fun j=>by go_simp⟩,⟨by simp,fun j=>by go_simp⟩⟩
 ·have h0:=Kept.nil_of (show Below w.heap.size w (((((w.alloc (.cells #[.slice Ae ne ce,.slice Ak nk ck] 35)).alloc (.cells #[.slice xA xn xc,.int .i64 xa,.string xs,.int .i64 xv] 27)).alloc (.cells #[.int .i64 a,.int .i64 n] 37)).alloc (.cells #[.slice none 0 0,.slice none 0 0,.slice none 0 0] 42)).alloc (.cells #[.int .i64 0] 43)) from (((((Below.refl _ _).alloc (Nat.le_refl _) _).alloc (by simp) _).alloc (by simp;omega) _).alloc (by simp;omega) _).alloc (by simp;omega) _)
  refine ((((((((h0).cons_of ?_).cons_of ?_).cons_of ?_).cons_of ?_).cons_of ?_).cons_of ?_).cons_of ?_).cons_of ?_ <;> go_simp
 ·have h0:=Kept.nil_of (show Below w.heap.size w (((((w.alloc (.cells #[.slice Ae ne ce,.slice Ak nk ck] 35)).alloc (.cells #[.slice xA xn xc,.int .i64 xa,.string xs,.int .i64 xv] 27)).alloc (.cells #[.int .i64 a,.int .i64 n] 37)).alloc (.cells #[.slice none 0 0,.slice none 0 0,.slice none 0 0] 42)).alloc (.cells #[.int .i64 0] 43)) from (((((Below.refl _ _).alloc (Nat.le_refl _) _).alloc (by simp) _).alloc (by simp;omega) _).alloc (by simp;omega) _).alloc (by simp;omega) _)
  refine (((h0.cons_of ?_).cons_of ?_).cons_of ?_).cons_of ?_ <;> go_simp
set_option maxRecDepth 100000 in
set_option maxHeartbeats 4000000 in
theorem oapply_any (t:T) (Ae Ak:Option Addr) (ne nk ce ck:Nat) (xp:List ByteArray) (xa:Int) (xs:ByteArray) (xv:Int) (xA:Option Addr) (xn xc:Nat) (a n:Int) (w:World) (er:Int) (her:appE t ⟨xp,xa,xs,xv⟩ a n=er) (hl:LenT reachBytes t) (hn:nodes t≤1000) (hr:RdT w w.heap.size t ⟨Ae,ne,ce⟩ ⟨Ak,nk,ck⟩) (hn2:nodes t≤240) (hn1:xn≤900) (hrx:Rd w w.heap.size 1 xA xn xc (strs xp)) :
  Calls Tryz.prog 20 #[.agg #[.slice Ae ne ce,.slice Ak nk ck],.agg #[.slice xA xn xc,.int .i64 xa,.string xs,.int .i64 xv],.agg #[.int .i64 a,.int .i64 n]] w (ApplyIs t ⟨xp,xa,xs,xv⟩ a n er w):=by
 obtain⟨W,p,q,s,r,g,HW,HP,HQ,HS0,HR0,HG0,HKc,HKR,HFR,HFG⟩:=boxApp w Ae Ak ne nk ce ck xA xn xc xa xs xv a n
 have hwr:w.heap.size≤r:=by have:=HP.out;have:=HR0.out;omega
 have hwg:w.heap.size≤g:=by have:=HP.out;have:=HG0.out;omega
 have hpr:p<r:=by have:=HP.out;have:=HR0.out;omega
 have hqr:q<r:=by have:=HQ.out;have:=HR0.out;omega
 have hsr:s<r:=by have:=HS0.out;have:=HR0.out;omega
 have hrg:r<g:=by have:=HR0.out;have:=HG0.out;omega
 have hgr:¬g=r:=by omega
 have hrg2:¬r=g:=by omega
 have hpg:p<g:=by omega
 have hqg:q<g:=by omega
 have hsg:s<g:=by omega
 have R:=Lib.hid (RdT.later hr HKc.out.below);have RX:=Lib.hid (hrx.later HKc.out.below);have HLX:=Lib.hid (rd_len1 hrx);have HRX0:=Lib.hid hrx;have HRT0:=Lib.hid hr;have N:=Lib.hid (And.intro hn (And.intro hn1 hl));have HER:=Lib.hid her;have N2:=Lib.hid hn2;obtain⟨y1,hy1⟩:∃ y,Tr.rightB 5 t=y:=⟨_,rfl⟩;obtain⟨y2,hy2⟩:∃ y,checkB t a n=y:=⟨_,rfl⟩;obtain⟨e0,he0⟩:∃ x,opE ⟨xp,xa,xs,xv⟩=x:=⟨_,rfl⟩;have HY1:=Lib.hid hy1;have HY2:=Lib.hid hy2;have HE0:=Lib.hid he0;clear hl hn hr hrx hn1 hn2 her hy1 hy2 he0
 cases y1 with
 | false=>
  obtain⟨c0,c1,c2,c3,c4,c5,c6,c7,-⟩:=HKc.out.cj;go_enter Tryz.func20,Tryz.ntmps20;go_wp2_with fail;rw[← HW.out,← HP.out]
  try rw[← HG0.out]
  try rw[← HR0.out]
  try rw[← HS0.out]
  try rw[← HQ.out]
  refine (rightT_any t Ae Ak ne nk ce ck W N.out.2.2 R.out).mono ?_;rw[HY1.out];rintro e v1 ⟨rfl,hb9⟩;have HKc:=Lib.hid (HKc.out.later hb9);have R:=Lib.hid (RdT.later R.out hb9);have RX:=Lib.hid (RX.out.later hb9);have HKR:=Lib.hid (HKR.out.later hb9);have HFR:=Lib.hid (HFR.out.later hb9);have HFG:=Lib.hid (HFG.out.later hb9);clear hb9;clear c0 c1 c2 c3 c4 c5 c6 c7
  have hz1:er=1:=by
   rw[← HER.out];unfold appE;rw[if_pos HY1.out]
  obtain rfl:=hz1;obtain⟨z0,z1,z2,z3,-⟩:=HKR.out.cj;have m0:=HFR.out.2 0;have m1:=HFR.out.2 1;have m2:=HFR.out.2 2;have m3:=HFG.out.2 0;obtain⟨W9,hW9⟩:∃ W,W=(((v1.setCell ⟨r,0,none⟩ (.slice none 0 0)).setCell ⟨r,1,none⟩ (.slice none 0 0)).setCell ⟨r,2,none⟩ (.slice none 0 0)).setCell ⟨g,0,none⟩ (.int .i64 1):=⟨_,rfl⟩
  have HB9:Hid (Below w.heap.size w W9):=by
   unfold Hid;rw[hW9];exact (((HKc.out.below.setCell (p:=⟨r,0,none⟩) hwr _).setCell (p:=⟨r,1,none⟩) hwr _).setCell (p:=⟨r,2,none⟩) hwr _).setCell (p:=⟨g,0,none⟩) hwg _
  have l0:W9.cell? ⟨r,0,none⟩=some (.slice none 0 0):=by rw[hW9];go_simp
  have l1:W9.cell? ⟨r,1,none⟩=some (.slice none 0 0):=by rw[hW9];go_simp
  have l2:W9.cell? ⟨r,2,none⟩=some (.slice none 0 0):=by rw[hW9];go_simp
  have l3:W9.cell? ⟨g,0,none⟩=some (.int .i64 1):=by rw[hW9];go_simp
  have HW9:=Lib.hid hW9;clear hW9;go_wp2_with fail;rw[← HW9.out];refine bodyPost_ret (v:=.tuple #[.agg #[.slice none 0 0,.slice none 0 0,.slice none 0 0],.int .i64 1]) (by simp[results,Tryz.results20,go_sem,l0,l1,l2,l3]) rfl ⟨noneK,none,0,0,none,0,0,none,0,0,rfl,OwC.no _ _,⟨fun h=>absurd h (by omega),fun _=>rfl⟩,HB9.out⟩
 | true=>
  have HNT:Hid (¬Tr.rightB 5 t=false):=by unfold Hid;rw[HY1.out];decide
  have HTB:Hid (Tr.rightB 5 t=true):=HY1.out
  by_cases hz0:e0=0
  ·subst hz0
   have HOK:Hid (OpOk ⟨xp,xa,xs,xv⟩):=opE_zero.1 HE0.out
   cases y2 with
   | false=>
    obtain⟨c0,c1,c2,c3,c4,c5,c6,c7,-⟩:=HKc.out.cj;go_enter Tryz.func20,Tryz.ntmps20;go_wp2_with fail;rw[← HW.out,← HP.out]
    try rw[← HG0.out]
    try rw[← HR0.out]
    try rw[← HS0.out]
    try rw[← HQ.out]
    refine (rightT_any t Ae Ak ne nk ce ck W N.out.2.2 R.out).mono ?_;rw[HY1.out];rintro e v1 ⟨rfl,hb9⟩;have HKc:=Lib.hid (HKc.out.later hb9);have R:=Lib.hid (RdT.later R.out hb9);have RX:=Lib.hid (RX.out.later hb9);have HKR:=Lib.hid (HKR.out.later hb9);have HFR:=Lib.hid (HFR.out.later hb9);have HFG:=Lib.hid (HFG.out.later hb9);clear hb9;clear c0 c1 c2 c3 c4 c5 c6 c7;obtain⟨c0,c1,c2,c3,c4,c5,c6,c7,-⟩:=HKc.out.cj;go_wp2_with fail;refine (ocheck_any xp xa xs xv xA xn xc v1 0 HE0.out (by have:=N.out;omega) RX.out).mono ?_;rintro e v2 ⟨rfl,hb9⟩;have HKc:=Lib.hid (HKc.out.later hb9);have R:=Lib.hid (RdT.later R.out hb9);have RX:=Lib.hid (RX.out.later hb9);have HKR:=Lib.hid (HKR.out.later hb9);have HFR:=Lib.hid (HFR.out.later hb9);have HFG:=Lib.hid (HFG.out.later hb9);clear hb9;clear c0 c1 c2 c3 c4 c5 c6 c7;obtain⟨c0,c1,c2,c3,c4,c5,c6,c7,-⟩:=HKc.out.cj
    go_wp2_with fail;refine (fcheck_any t Ae Ak ne nk ce ck a n v2 false HY2.out N.out.2.2 N.out.1 R.out).mono ?_;rintro e v3 ⟨rfl,hb9⟩;have HKc:=Lib.hid (HKc.out.later hb9);have R:=Lib.hid (RdT.later R.out hb9);have RX:=Lib.hid (RX.out.later hb9);have HKR:=Lib.hid (HKR.out.later hb9);have HFR:=Lib.hid (HFR.out.later hb9);have HFG:=Lib.hid (HFG.out.later hb9);clear hb9;clear c0 c1 c2 c3 c4 c5 c6 c7
    have hz1:er=1:=by
     rw[← HER.out];unfold appE;rw[if_neg HNT.out,if_neg (fun h=>h HE0.out),if_pos HY2.out]
    obtain rfl:=hz1;obtain⟨z0,z1,z2,z3,-⟩:=HKR.out.cj;have m0:=HFR.out.2 0;have m1:=HFR.out.2 1;have m2:=HFR.out.2 2;have m3:=HFG.out.2 0;obtain⟨W9,hW9⟩:∃ W,W=(((v3.setCell ⟨r,0,none⟩ (.slice none 0 0)).setCell ⟨r,1,none⟩ (.slice none 0 0)).setCell ⟨r,2,none⟩ (.slice none 0 0)).setCell ⟨g,0,none⟩ (.int .i64 1):=⟨_,rfl⟩
    have HB9:Hid (Below w.heap.size w W9):=by
     unfold Hid;rw[hW9];exact (((HKc.out.below.setCell (p:=⟨r,0,none⟩) hwr _).setCell (p:=⟨r,1,none⟩) hwr _).setCell (p:=⟨r,2,none⟩) hwr _).setCell (p:=⟨g,0,none⟩) hwg _
    have l0:W9.cell? ⟨r,0,none⟩=some (.slice none 0 0):=by rw[hW9];go_simp
    have l1:W9.cell? ⟨r,1,none⟩=some (.slice none 0 0):=by rw[hW9];go_simp
    have l2:W9.cell? ⟨r,2,none⟩=some (.slice none 0 0):=by rw[hW9];go_simp
    have l3:W9.cell? ⟨g,0,none⟩=some (.int .i64 1):=by rw[hW9];go_simp
    have HW9:=Lib.hid hW9;clear hW9;go_wp2_with fail;rw[← HW9.out];refine bodyPost_ret (v:=.tuple #[.agg #[.slice none 0 0,.slice none 0 0,.slice none 0 0],.int .i64 1]) (by simp[results,Tryz.results20,go_sem,l0,l1,l2,l3]) rfl ⟨noneK,none,0,0,none,0,0,none,0,0,rfl,OwC.no _ _,⟨fun h=>absurd h (by omega),fun _=>rfl⟩,HB9.out⟩
   | true=>
    have HT:Hid (RightT 5 t):=(check_iff.1 HY2.out).1;have HD:Hid (Dt.rightB a n=true):=(check_iff.1 HY2.out).2.1
    have HNC:Hid (¬checkB t a n=false):=by unfold Hid;rw[HY2.out];decide
    have HPN:Hid (xn≤3∧1≤xn):=by
     have h1:=HOK.out.path.few;have h2:=HLX.out;have h3:=List.length_pos_iff.2 HOK.out.path.some;dsimp only at h1 h3;unfold Hid;omega
    have HEF:Hid (er=if fullB t ⟨xp,xa,xs,xv⟩=true then 4 else 0):=by
     unfold Hid;rw[← HER.out];unfold appE;rw[if_neg HNT.out,if_neg (fun h=>h HE0.out),if_neg HNC.out]
    obtain⟨c0,c1,c2,c3,c4,c5,c6,c7,-⟩:=HKc.out.cj;refine (callsIn_wide (n:=6)).1 ?_;refine callsIn_of_wp_marks Tryz.func20 rfl trivial ?_ rfl;simp only[Tryz.ntmps20,List.size_toArray,List.length_cons,List.length_nil,Nat.reduceAdd,Nat.reduceSub,Array.replicate_succ,Array.replicate_zero,List.push_toArray,List.append_toArray,List.nil_append,List.cons_append];refine wpIn_wide.2 ?_;refine Rnd.wp_still ?_;go_wp2_with fail;rw[← HW.out,← HP.out]
    try rw[← HG0.out]
    try rw[← HR0.out]
    try rw[← HS0.out]
    try rw[← HQ.out]
    refine (rightT_any t Ae Ak ne nk ce ck W N.out.2.2 R.out).mono ?_;rw[HY1.out];rintro e v1 ⟨rfl,hb9⟩;have HKc:=Lib.hid (HKc.out.later hb9);have R:=Lib.hid (RdT.later R.out hb9);have RX:=Lib.hid (RX.out.later hb9);have HKR:=Lib.hid (HKR.out.later hb9);have HFR:=Lib.hid (HFR.out.later hb9);have HFG:=Lib.hid (HFG.out.later hb9);clear hb9;clear c0 c1 c2 c3 c4 c5 c6 c7;obtain⟨c0,c1,c2,c3,c4,c5,c6,c7,-⟩:=HKc.out.cj;go_wp2_with fail;refine (ocheck_any xp xa xs xv xA xn xc v1 0 HE0.out (by have:=N.out;omega) RX.out).mono ?_;rintro e v2 ⟨rfl,hb9⟩;have HKc:=Lib.hid (HKc.out.later hb9);have R:=Lib.hid (RdT.later R.out hb9);have RX:=Lib.hid (RX.out.later hb9);have HKR:=Lib.hid (HKR.out.later hb9);have HFR:=Lib.hid (HFR.out.later hb9);have HFG:=Lib.hid (HFG.out.later hb9);clear hb9;clear c0 c1 c2 c3 c4 c5 c6 c7;obtain⟨c0,c1,c2,c3,c4,c5,c6,c7,-⟩:=HKc.out.cj
    go_wp2_with fail;refine (fcheck_any t Ae Ak ne nk ce ck a n v2 true HY2.out N.out.2.2 N.out.1 R.out).mono ?_;rintro e v3 ⟨rfl,hb9⟩;have HKc:=Lib.hid (HKc.out.later hb9);have R:=Lib.hid (RdT.later R.out hb9);have RX:=Lib.hid (RX.out.later hb9);have HKR:=Lib.hid (HKR.out.later hb9);have HFR:=Lib.hid (HFR.out.later hb9);have HFG:=Lib.hid (HFG.out.later hb9);clear hb9;clear c0 c1 c2 c3 c4 c5 c6 c7;have HFR0:=HFR;have HFG0:=HFG;obtain⟨c0,c1,c2,c3,c4,c5,c6,c7,-⟩:=HKc.out.cj;go_wp2_with fail;clear c0 c1 c2 c3 c4 c5 c6 c7
    go_cut [10,11] from 31 to 40 (fun s9 e9 wx=>∃ (gD gE:Nat) (p9:CP) (z9:Int),s9 = .pointer (some ⟨gD,0,none⟩)∧e9 = .pointer (some ⟨gE,0,none⟩)∧Hid (Mid9 v3 gD gE p9 z9 wx)∧Hid (UpIs t ⟨xp,xa,xs,xv⟩ (a,n) xp.length p9.k z9))
    case first=>
     refine wp_region_held_drew (S:=Conj _) (by kernel_rfl) HKc.out.drew.cj (fun hHeld=>?_);obtain⟨v4,hv4⟩:∃ v,v=v3.drew:=⟨_,rfl⟩
     have hb9:Below v3.heap.size v3 v4:=by rw[hv4];exact (Below.refl _ _).drew
     have HKc:=Lib.hid (HKc.out.later hb9);have R:=Lib.hid (RdT.later R.out hb9);have RX:=Lib.hid (RX.out.later hb9);have HKR:=Lib.hid (HKR.out.later hb9);have HFR:=Lib.hid (HFR.out.later hb9);have HFG:=Lib.hid (HFG.out.later hb9);clear hb9;have HBV9:Hid (v3.drew=v4):=hv4.symm;rw[← hv4]at hHeld ⊢;clear hv4
     have HBV:Hid (Below v3.heap.size v3 v4):=by unfold Hid;rw[← HBV9.out];exact (Below.refl _ _).drew
     clear HBV9;refine Tk 0 32 ?_;refine Tk 1 33 ?_;refine Tk 2 34 ?_;refine Tk 4 36 ?_;refine Tk 5 37 ?_;refine wpAnyH_ready (rs:=[3,10,11]) (by kernel_rfl) (by simp) ?_;refine AllReadyH.cons (o:=⟨some 35,_,_,_,_,_⟩) rfl (fun K hK=>?_) (AllReadyH.cons (o:=⟨some 10,_,_,_,_,_⟩) rfl (fun K hK=>?_) (AllReadyH.cons (o:=⟨some 11,_,_,_,_,_⟩) rfl (fun K hK=>?_) (AllReadyH.nil)))
     ·go_simp
      (go_at_call 49;refine (get_any t Ae Ak ne nk ce ck v4 xp xA xn xc HLX.out (by have:=N.out;omega) RX.out N.out.2.2 (by have:=N.out;omega) R.out).mono ?_);rintro e v5 ⟨Ge,gn,gc,Gk,gm,gd,rfl,hot,hb9⟩;rw[if_pos HTB.out]at hot;have RG:Hid (RdT v5 v5.heap.size (getT t xp) ⟨Ge,gn,gc⟩ ⟨Gk,gm,gd⟩):=hot.rd;clear hot;have HKc:=Lib.hid (HKc.out.later hb9);have R:=Lib.hid (RdT.later R.out hb9);have RX:=Lib.hid (RX.out.later hb9);have HKR:=Lib.hid (HKR.out.later hb9);have HFR:=Lib.hid (HFR.out.later hb9);have HFG:=Lib.hid (HFG.out.later hb9);have HBV:=Lib.hid (HBV.out.trans (hb9.mono HBV.out.size));clear hb9;clear hHeld;refine Th hK ?_ (fun hHeld=>?_)
      ·exact HKc.out.cj
      clear hK K;refine wpAnyH_ready (rs:=[6,10,11]) (by kernel_rfl) (by simp) ?_;refine AllReadyH.cons (o:=⟨some 38,_,_,_,_,_⟩) rfl (fun K hK=>?_) (AllReadyH.cons (o:=⟨some 10,_,_,_,_,_⟩) rfl (fun K hK=>?_) (AllReadyH.cons (o:=⟨some 11,_,_,_,_,_⟩) rfl (fun K hK=>?_) (AllReadyH.nil)))
      ·go_simp
       (go_at_call 48;refine (ochange_any t xp xa xs xv xA xn xc a n Ge Gk gn gm gc gd v5 HT.out HOK.out HY2.out N2.out RG.out).mono ?_);rintro e v6 ⟨kx,zx,Xe,xe1,xe2,Xk,xk1,xk2,Xc,xc1,xc2,rfl,how,hup,hb9⟩;have HN:Hid (NoC v6 (fun b=>v3.heap.size≤b) ⟨kx,⟨Xe,xe1,xe2⟩,⟨Xk,xk1,xk2⟩,⟨Xc,xc1,xc2⟩⟩):=NoC.of_own how.out (fun b hb _=>Nat.le_trans HBV.out.size hb);have HUP:=Lib.hid hup.out;clear how hup;have HKc:=Lib.hid (HKc.out.later hb9);have R:=Lib.hid (RdT.later R.out hb9);have RX:=Lib.hid (RX.out.later hb9);have HKR:=Lib.hid (HKR.out.later hb9);have HFR:=Lib.hid (HFR.out.later hb9);have HFG:=Lib.hid (HFG.out.later hb9);have HBV:=Lib.hid (HBV.out.trans (hb9.mono HBV.out.size));have RG:=Lib.hid (RdT.later RG.out hb9);clear hb9;clear hHeld;refine Th hK ?_ (fun hHeld=>?_)
       ·exact HKc.out.cj
       clear hK K;refine Tk 7 31 ?_;refine Tk 8 39 ?_;refine Tk 9 40 ?_;refine wpAnyH_ready (rs:=[10,11]) (by kernel_rfl) (by simp) ?_;refine AllReadyH.cons (o:=⟨some 10,_,_,_,_,_⟩) rfl (fun K hK=>?_) (AllReadyH.cons (o:=⟨some 11,_,_,_,_,_⟩) rfl (fun K hK=>?_) (AllReadyH.nil))
       ·go_simp
        clear hHeld;refine Th hK ?_ (fun hHeld=>?_)
        ·exact (HKc.out.alloc _).cj
        clear hK K;obtain⟨gD,hgD⟩:∃ g,g=v6.heap.size:=⟨_,rfl⟩;obtain⟨v7,hv7⟩:∃ W,W=v6.alloc (.cells #[.slice none 0 0,.slice none 0 0,.slice none 0 0] 42):=⟨_,rfl⟩
        have hb9:Below v6.heap.size v6 v7:=by rw[hv7];exact Dt.box_below _ _ _
        have hvgD:v3.heap.size≤gD:=by rw[hgD];exact HBV.out.size
        have hwgD:w.heap.size≤gD:=by rw[hgD];exact HKc.out.below.size
        have hnpgD:p≠gD:=by have h:=World.block_lt_of_cell? v6 _ HKc.out.c0;dsimp only at h;omega
        have hnqgD:q≠gD:=by have h:=World.block_lt_of_cell? v6 _ HKc.out.c2;dsimp only at h;omega
        have hnsgD:s≠gD:=by have h:=World.block_lt_of_cell? v6 _ HKc.out.c6;dsimp only at h;omega
        have b0:v7.cell? ⟨gD,0,none⟩=some (.slice none 0 0):=by rw[hv7,hgD];go_simp
        have b1:v7.cell? ⟨gD,1,none⟩=some (.slice none 0 0):=by rw[hv7,hgD];go_simp
        have b2:v7.cell? ⟨gD,2,none⟩=some (.slice none 0 0):=by rw[hv7,hgD];go_simp
        have HN:=Lib.hid (HN.out.mono (ok':=fun b=>v3.heap.size≤b∧b≠gD) (fun b hb hlt=>⟨hb,by omega⟩));have HKc:=Lib.hid (HKc.out.later hb9);have R:=Lib.hid (RdT.later R.out hb9);have RX:=Lib.hid (RX.out.later hb9);have HKR:=Lib.hid (HKR.out.later hb9);have HFR:=Lib.hid (HFR.out.later hb9);have HFG:=Lib.hid (HFG.out.later hb9);have HBV:=Lib.hid (HBV.out.trans (hb9.mono HBV.out.size));have RG:=Lib.hid (RdT.later RG.out hb9);have HN:=Lib.hid (HN.out.later hb9);have HZ:=Lib.hid ((((Kept.nil_of HBV.out).cons_of b2).cons_of b1).cons_of b0);have HF:Hid (Free gD v7):=⟨by rw[hv7,hgD];simp,fun j=>by rw[hv7,hgD];go_simp⟩;have hltgD:gD<v7.heap.size:=HF.out.1;(try rw[← hv7]at hHeld);rw[← hv7];rw[← hgD];clear hgD hv7 hb9 b0 b1 b2;refine Tc 11 (fun K hK=>?_);go_simp;clear hHeld;refine Th hK ?_ (fun hHeld=>?_)
        ·exact (HKc.out.alloc _).cj
        clear hK K;obtain⟨gE,hgE⟩:∃ g,g=v7.heap.size:=⟨_,rfl⟩;obtain⟨v8,hv8⟩:∃ W,W=v7.alloc (.cells #[.int .i64 0] 43):=⟨_,rfl⟩
        have hb9:Below v7.heap.size v7 v8:=by rw[hv8];exact Dt.box_below _ _ _
        have hvgE:v3.heap.size≤gE:=by rw[hgE];exact HBV.out.size
        have hwgE:w.heap.size≤gE:=by rw[hgE];exact HKc.out.below.size
        have hnpgE:p≠gE:=by have h:=World.block_lt_of_cell? v7 _ HKc.out.c0;dsimp only at h;omega
        have hnqgE:q≠gE:=by have h:=World.block_lt_of_cell? v7 _ HKc.out.c2;dsimp only at h;omega
        have hnsgE:s≠gE:=by have h:=World.block_lt_of_cell? v7 _ HKc.out.c6;dsimp only at h;omega
        have b0:v8.cell? ⟨gE,0,none⟩=some (.int .i64 0):=by rw[hv8,hgE];go_simp
        have hne9:gD≠gE:=by have h:=HF.out.1;omega
        have hne8:¬gE=gD:=fun h=>hne9 h.symm;have HN:=Lib.hid (HN.out.mono (ok':=fun b=>v3.heap.size≤b∧b≠gD∧b≠gE) (fun b hb hlt=>⟨hb.1,hb.2,by omega⟩));have HKc:=Lib.hid (HKc.out.later hb9);have R:=Lib.hid (RdT.later R.out hb9);have RX:=Lib.hid (RX.out.later hb9);have HKR:=Lib.hid (HKR.out.later hb9);have HFR:=Lib.hid (HFR.out.later hb9);have HFG:=Lib.hid (HFG.out.later hb9);have HBV:=Lib.hid (HBV.out.trans (hb9.mono HBV.out.size));have RG:=Lib.hid (RdT.later RG.out hb9);have HN:=Lib.hid (HN.out.later hb9);have HZ:=Lib.hid (HZ.out.later hb9);have HF:=Lib.hid (HF.out.later hb9);have HY:=Lib.hid ((Kept.nil_of HBV.out).cons_of b0);have HFE:Hid (Free gE v8):=⟨by rw[hv8,hgE];simp,fun j=>by rw[hv8,hgE];go_simp⟩;have hltgE:gE<v8.heap.size:=HFE.out.1;(try rw[← hv8]at hHeld);rw[← hv8];rw[← hgE];clear hgE hv8 hb9 b0
        obtain⟨z0,z1,z2,-⟩:=HZ.out.cj;have z3:=HY.out.c0;have m0:=HF.out.2 0;have m1:=HF.out.2 1;have m2:=HF.out.2 2;have m3:=HFE.out.2 0;refine Tc 12 (fun K hK=>?_);go_simp;refine Th hK ?_ (fun hHeld2=>?_)
        ·(try dsimp only)
         have h9:=HKc.out.st3 (g:=gD) hwgD (fun x hx=>by simp at hx;rcases hx with rfl | rfl | rfl | rfl | rfl | rfl | rfl | rfl <;> (dsimp only;omega)) (.slice Xe xe1 xe2) (.slice Xk xk1 xk2) (.slice Xc xc1 xc2)
         exact h9.cj
        clear hK K hHeld;have hHeld:=hHeld2;clear hHeld2;refine Tc 13 (fun K hK=>?_);go_simp;refine Th hK ?_ (fun hHeld2=>?_)
        ·(try dsimp only)
         have h9:=HKc.out
         have h9:=h9.set (a:=⟨gD,0,none⟩) hwgD (fun x hx=>by simp at hx;rcases hx with rfl | rfl | rfl | rfl | rfl | rfl | rfl | rfl <;> (dsimp only;omega)) (.slice Xe xe1 xe2)
         have h9:=h9.set (a:=⟨gD,1,none⟩) hwgD (fun x hx=>by simp at hx;rcases hx with rfl | rfl | rfl | rfl | rfl | rfl | rfl | rfl <;> (dsimp only;omega)) (.slice Xk xk1 xk2)
         have h9:=h9.set (a:=⟨gD,2,none⟩) hwgD (fun x hx=>by simp at hx;rcases hx with rfl | rfl | rfl | rfl | rfl | rfl | rfl | rfl <;> (dsimp only;omega)) (.slice Xc xc1 xc2)
         have h9:=h9.set (a:=⟨gE,0,none⟩) hwgE (fun x hx=>by simp at hx;rcases hx with rfl | rfl | rfl | rfl | rfl | rfl | rfl | rfl <;> (dsimp only;omega)) (.int .i64 zx)
         exact h9.cj
        clear hK K hHeld;have hHeld:=hHeld2;clear hHeld2;refine wpAnyH_done (by kernel_rfl) ?_ _;clear hHeld
        have HMID:Hid (Mid9 v3 gD gE ⟨kx,⟨Xe,xe1,xe2⟩,⟨Xk,xk1,xk2⟩,⟨Xc,xc1,xc2⟩⟩ zx ((((v8.setCell ⟨gD,0,none⟩ (.slice Xe xe1 xe2)).setCell ⟨gD,1,none⟩ (.slice Xk xk1 xk2)).setCell ⟨gD,2,none⟩ (.slice Xc xc1 xc2)).setCell ⟨gE,0,none⟩ (.int .i64 zx))):=by
         obtain⟨W8,hW8⟩:∃ W,W=((v8.setCell ⟨gD,0,none⟩ (.slice Xe xe1 xe2)).setCell ⟨gD,1,none⟩ (.slice Xk xk1 xk2)).setCell ⟨gD,2,none⟩ (.slice Xc xc1 xc2):=⟨_,rfl⟩;obtain⟨W9,hW9⟩:∃ W,W=W8.setCell ⟨gE,0,none⟩ (.int .i64 zx):=⟨_,rfl⟩;rw[← hW8,← hW9]
         have hb:Below v3.heap.size v3 W9:=by
          rw[hW9,hW8];exact ((((HBV.out.setCell (p:=⟨gD,0,none⟩) hvgD _).setCell (p:=⟨gD,1,none⟩) hvgD _).setCell (p:=⟨gD,2,none⟩) hvgD _).setCell (p:=⟨gE,0,none⟩) hvgE _)
         refine⟨hvgD,hvgE,hne9,HN.out.keep (by rw[hW9,hW8];simp[World.setCell]) (fun b hb _=>by rw[hW9,hW8];exact (Below.heap_setCell _ ⟨gE,0,none⟩ _ b (fun e=>hb.2.2 e)).trans (cells3_at b hb.2.1)),?_,?_,?_⟩
         ·refine ((((Kept.nil_of hb).cons_of ?_).cons_of ?_).cons_of ?_).cons_of ?_ <;> (rw[hW9,hW8];go_simp)
         ·rw[hW9,hW8]
          exact (((HF.out.set _ _).set _ _).set _ _).set _ _
         ·rw[hW9,hW8]
          exact (((HFE.out.set _ _).set _ _).set _ _).set _ _
        clear z0 z1 z2 z3 m0 m1 m2 m3;go_wp2_with fail;go_meet;exact⟨gD,gE,⟨kx,⟨Xe,xe1,xe2⟩,⟨Xk,xk1,xk2⟩,⟨Xc,xc1,xc2⟩⟩,zx,rfl,rfl,HMID.out,HUP.out⟩
       ·go_simp
        clear hHeld;refine Th hK ?_ (fun hHeld=>?_)
        ·exact (HKc.out.alloc _).cj
        clear hK K;obtain⟨gE,hgE⟩:∃ g,g=v6.heap.size:=⟨_,rfl⟩;obtain⟨v7,hv7⟩:∃ W,W=v6.alloc (.cells #[.int .i64 0] 43):=⟨_,rfl⟩
        have hb9:Below v6.heap.size v6 v7:=by rw[hv7];exact Dt.box_below _ _ _
        have hvgE:v3.heap.size≤gE:=by rw[hgE];exact HBV.out.size
        have hwgE:w.heap.size≤gE:=by rw[hgE];exact HKc.out.below.size
        have hnpgE:p≠gE:=by have h:=World.block_lt_of_cell? v6 _ HKc.out.c0;dsimp only at h;omega
        have hnqgE:q≠gE:=by have h:=World.block_lt_of_cell? v6 _ HKc.out.c2;dsimp only at h;omega
        have hnsgE:s≠gE:=by have h:=World.block_lt_of_cell? v6 _ HKc.out.c6;dsimp only at h;omega
        have b0:v7.cell? ⟨gE,0,none⟩=some (.int .i64 0):=by rw[hv7,hgE];go_simp
        have HN:=Lib.hid (HN.out.mono (ok':=fun b=>v3.heap.size≤b∧b≠gE) (fun b hb hlt=>⟨hb,by omega⟩));have HKc:=Lib.hid (HKc.out.later hb9);have R:=Lib.hid (RdT.later R.out hb9);have RX:=Lib.hid (RX.out.later hb9);have HKR:=Lib.hid (HKR.out.later hb9);have HFR:=Lib.hid (HFR.out.later hb9);have HFG:=Lib.hid (HFG.out.later hb9);have HBV:=Lib.hid (HBV.out.trans (hb9.mono HBV.out.size));have RG:=Lib.hid (RdT.later RG.out hb9);have HN:=Lib.hid (HN.out.later hb9);have HY:=Lib.hid ((Kept.nil_of HBV.out).cons_of b0);have HFE:Hid (Free gE v7):=⟨by rw[hv7,hgE];simp,fun j=>by rw[hv7,hgE];go_simp⟩;have hltgE:gE<v7.heap.size:=HFE.out.1;(try rw[← hv7]at hHeld);rw[← hv7];rw[← hgE];clear hgE hv7 hb9 b0;refine Tc 10 (fun K hK=>?_);go_simp;clear hHeld;refine Th hK ?_ (fun hHeld=>?_)
        ·exact (HKc.out.alloc _).cj
        clear hK K;obtain⟨gD,hgD⟩:∃ g,g=v7.heap.size:=⟨_,rfl⟩;obtain⟨v8,hv8⟩:∃ W,W=v7.alloc (.cells #[.slice none 0 0,.slice none 0 0,.slice none 0 0] 42):=⟨_,rfl⟩
        have hb9:Below v7.heap.size v7 v8:=by rw[hv8];exact Dt.box_below _ _ _
        have hvgD:v3.heap.size≤gD:=by rw[hgD];exact HBV.out.size
        have hwgD:w.heap.size≤gD:=by rw[hgD];exact HKc.out.below.size
        have hnpgD:p≠gD:=by have h:=World.block_lt_of_cell? v7 _ HKc.out.c0;dsimp only at h;omega
        have hnqgD:q≠gD:=by have h:=World.block_lt_of_cell? v7 _ HKc.out.c2;dsimp only at h;omega
        have hnsgD:s≠gD:=by have h:=World.block_lt_of_cell? v7 _ HKc.out.c6;dsimp only at h;omega
        have b0:v8.cell? ⟨gD,0,none⟩=some (.slice none 0 0):=by rw[hv8,hgD];go_simp
        have b1:v8.cell? ⟨gD,1,none⟩=some (.slice none 0 0):=by rw[hv8,hgD];go_simp
        have b2:v8.cell? ⟨gD,2,none⟩=some (.slice none 0 0):=by rw[hv8,hgD];go_simp
        have hne9:gD≠gE:=by have h:=HFE.out.1;omega
        have hne8:¬gE=gD:=fun h=>hne9 h.symm;have HN:=Lib.hid (HN.out.mono (ok':=fun b=>v3.heap.size≤b∧b≠gD∧b≠gE) (fun b hb hlt=>⟨hb.1,by omega,hb.2⟩));have HKc:=Lib.hid (HKc.out.later hb9);have R:=Lib.hid (RdT.later R.out hb9);have RX:=Lib.hid (RX.out.later hb9);have HKR:=Lib.hid (HKR.out.later hb9);have HFR:=Lib.hid (HFR.out.later hb9);have HFG:=Lib.hid (HFG.out.later hb9);have HBV:=Lib.hid (HBV.out.trans (hb9.mono HBV.out.size));have RG:=Lib.hid (RdT.later RG.out hb9);have HN:=Lib.hid (HN.out.later hb9);have HY:=Lib.hid (HY.out.later hb9);have HFE:=Lib.hid (HFE.out.later hb9);have HZ:=Lib.hid ((((Kept.nil_of HBV.out).cons_of b2).cons_of b1).cons_of b0);have HF:Hid (Free gD v8):=⟨by rw[hv8,hgD];simp,fun j=>by rw[hv8,hgD];go_simp⟩;have hltgD:gD<v8.heap.size:=HF.out.1;(try rw[← hv8]at hHeld);rw[← hv8]
        rw[← hgD];clear hgD hv8 hb9 b0 b1 b2;obtain⟨z0,z1,z2,-⟩:=HZ.out.cj;have z3:=HY.out.c0;have m0:=HF.out.2 0;have m1:=HF.out.2 1;have m2:=HF.out.2 2;have m3:=HFE.out.2 0;refine Tc 12 (fun K hK=>?_);go_simp;refine Th hK ?_ (fun hHeld2=>?_)
        ·(try dsimp only)
         have h9:=HKc.out.st3 (g:=gD) hwgD (fun x hx=>by simp at hx;rcases hx with rfl | rfl | rfl | rfl | rfl | rfl | rfl | rfl <;> (dsimp only;omega)) (.slice Xe xe1 xe2) (.slice Xk xk1 xk2) (.slice Xc xc1 xc2)
         exact h9.cj
        clear hK K hHeld;have hHeld:=hHeld2;clear hHeld2;refine Tc 13 (fun K hK=>?_);go_simp;refine Th hK ?_ (fun hHeld2=>?_)
        ·(try dsimp only)
         have h9:=HKc.out
         have h9:=h9.set (a:=⟨gD,0,none⟩) hwgD (fun x hx=>by simp at hx;rcases hx with rfl | rfl | rfl | rfl | rfl | rfl | rfl | rfl <;> (dsimp only;omega)) (.slice Xe xe1 xe2)
         have h9:=h9.set (a:=⟨gD,1,none⟩) hwgD (fun x hx=>by simp at hx;rcases hx with rfl | rfl | rfl | rfl | rfl | rfl | rfl | rfl <;> (dsimp only;omega)) (.slice Xk xk1 xk2)
         have h9:=h9.set (a:=⟨gD,2,none⟩) hwgD (fun x hx=>by simp at hx;rcases hx with rfl | rfl | rfl | rfl | rfl | rfl | rfl | rfl <;> (dsimp only;omega)) (.slice Xc xc1 xc2)
         have h9:=h9.set (a:=⟨gE,0,none⟩) hwgE (fun x hx=>by simp at hx;rcases hx with rfl | rfl | rfl | rfl | rfl | rfl | rfl | rfl <;> (dsimp only;omega)) (.int .i64 zx)
         exact h9.cj
        clear hK K hHeld;have hHeld:=hHeld2;clear hHeld2;refine wpAnyH_done (by kernel_rfl) ?_ _;clear hHeld
        have HMID:Hid (Mid9 v3 gD gE ⟨kx,⟨Xe,xe1,xe2⟩,⟨Xk,xk1,xk2⟩,⟨Xc,xc1,xc2⟩⟩ zx ((((v8.setCell ⟨gD,0,none⟩ (.slice Xe xe1 xe2)).setCell ⟨gD,1,none⟩ (.slice Xk xk1 xk2)).setCell ⟨gD,2,none⟩ (.slice Xc xc1 xc2)).setCell ⟨gE,0,none⟩ (.int .i64 zx))):=by
         obtain⟨W8,hW8⟩:∃ W,W=((v8.setCell ⟨gD,0,none⟩ (.slice Xe xe1 xe2)).setCell ⟨gD,1,none⟩ (.slice Xk xk1 xk2)).setCell ⟨gD,2,none⟩ (.slice Xc xc1 xc2):=⟨_,rfl⟩;obtain⟨W9,hW9⟩:∃ W,W=W8.setCell ⟨gE,0,none⟩ (.int .i64 zx):=⟨_,rfl⟩;rw[← hW8,← hW9]
         have hb:Below v3.heap.size v3 W9:=by
          rw[hW9,hW8];exact ((((HBV.out.setCell (p:=⟨gD,0,none⟩) hvgD _).setCell (p:=⟨gD,1,none⟩) hvgD _).setCell (p:=⟨gD,2,none⟩) hvgD _).setCell (p:=⟨gE,0,none⟩) hvgE _)
         refine⟨hvgD,hvgE,hne9,HN.out.keep (by rw[hW9,hW8];simp[World.setCell]) (fun b hb _=>by rw[hW9,hW8];exact (Below.heap_setCell _ ⟨gE,0,none⟩ _ b (fun e=>hb.2.2 e)).trans (cells3_at b hb.2.1)),?_,?_,?_⟩
         ·refine ((((Kept.nil_of hb).cons_of ?_).cons_of ?_).cons_of ?_).cons_of ?_ <;> (rw[hW9,hW8];go_simp)
         ·rw[hW9,hW8]
          exact (((HF.out.set _ _).set _ _).set _ _).set _ _
         ·rw[hW9,hW8]
          exact (((HFE.out.set _ _).set _ _).set _ _).set _ _
        clear z0 z1 z2 z3 m0 m1 m2 m3;go_wp2_with fail;go_meet;exact⟨gD,gE,⟨kx,⟨Xe,xe1,xe2⟩,⟨Xk,xk1,xk2⟩,⟨Xc,xc1,xc2⟩⟩,zx,rfl,rfl,HMID.out,HUP.out⟩
      ·go_simp
       clear hHeld;refine Th hK ?_ (fun hHeld=>?_)
       ·exact (HKc.out.alloc _).cj
       clear hK K;obtain⟨gD,hgD⟩:∃ g,g=v5.heap.size:=⟨_,rfl⟩;obtain⟨v6,hv6⟩:∃ W,W=v5.alloc (.cells #[.slice none 0 0,.slice none 0 0,.slice none 0 0] 42):=⟨_,rfl⟩
       have hb9:Below v5.heap.size v5 v6:=by rw[hv6];exact Dt.box_below _ _ _
       have hvgD:v3.heap.size≤gD:=by rw[hgD];exact HBV.out.size
       have hwgD:w.heap.size≤gD:=by rw[hgD];exact HKc.out.below.size
       have hnpgD:p≠gD:=by have h:=World.block_lt_of_cell? v5 _ HKc.out.c0;dsimp only at h;omega
       have hnqgD:q≠gD:=by have h:=World.block_lt_of_cell? v5 _ HKc.out.c2;dsimp only at h;omega
       have hnsgD:s≠gD:=by have h:=World.block_lt_of_cell? v5 _ HKc.out.c6;dsimp only at h;omega
       have b0:v6.cell? ⟨gD,0,none⟩=some (.slice none 0 0):=by rw[hv6,hgD];go_simp
       have b1:v6.cell? ⟨gD,1,none⟩=some (.slice none 0 0):=by rw[hv6,hgD];go_simp
       have b2:v6.cell? ⟨gD,2,none⟩=some (.slice none 0 0):=by rw[hv6,hgD];go_simp
       have HKc:=Lib.hid (HKc.out.later hb9);have R:=Lib.hid (RdT.later R.out hb9);have RX:=Lib.hid (RX.out.later hb9);have HKR:=Lib.hid (HKR.out.later hb9);have HFR:=Lib.hid (HFR.out.later hb9);have HFG:=Lib.hid (HFG.out.later hb9);have HBV:=Lib.hid (HBV.out.trans (hb9.mono HBV.out.size));have RG:=Lib.hid (RdT.later RG.out hb9);have HZ:=Lib.hid ((((Kept.nil_of HBV.out).cons_of b2).cons_of b1).cons_of b0);have HF:Hid (Free gD v6):=⟨by rw[hv6,hgD];simp,fun j=>by rw[hv6,hgD];go_simp⟩;have hltgD:gD<v6.heap.size:=HF.out.1;(try rw[← hv6]at hHeld);rw[← hv6];rw[← hgD];clear hgD hv6 hb9 b0 b1 b2;refine wpAnyH_ready (rs:=[6,11]) (by kernel_rfl) (by simp) ?_;refine AllReadyH.cons (o:=⟨some 38,_,_,_,_,_⟩) rfl (fun K hK=>?_) (AllReadyH.cons (o:=⟨some 11,_,_,_,_,_⟩) rfl (fun K hK=>?_) (AllReadyH.nil))
       ·go_simp
        (go_at_call 48;refine (ochange_any t xp xa xs xv xA xn xc a n Ge Gk gn gm gc gd v6 HT.out HOK.out HY2.out N2.out RG.out).mono ?_);rintro e v7 ⟨kx,zx,Xe,xe1,xe2,Xk,xk1,xk2,Xc,xc1,xc2,rfl,how,hup,hb9⟩;have HN:Hid (NoC v7 (fun b=>v3.heap.size≤b∧b≠gD) ⟨kx,⟨Xe,xe1,xe2⟩,⟨Xk,xk1,xk2⟩,⟨Xc,xc1,xc2⟩⟩):=NoC.of_own how.out (fun b hb _=>⟨Nat.le_trans HBV.out.size hb,by have h:=HF.out.1;omega⟩);have HUP:=Lib.hid hup.out;clear how hup;have HKc:=Lib.hid (HKc.out.later hb9);have R:=Lib.hid (RdT.later R.out hb9);have RX:=Lib.hid (RX.out.later hb9);have HKR:=Lib.hid (HKR.out.later hb9);have HFR:=Lib.hid (HFR.out.later hb9);have HFG:=Lib.hid (HFG.out.later hb9);have HBV:=Lib.hid (HBV.out.trans (hb9.mono HBV.out.size));have RG:=Lib.hid (RdT.later RG.out hb9);have HZ:=Lib.hid (HZ.out.later hb9);have HF:=Lib.hid (HF.out.later hb9)
        clear hb9;clear hHeld;refine Th hK ?_ (fun hHeld=>?_)
        ·exact HKc.out.cj
        clear hK K;refine Tk 7 31 ?_;refine Tk 8 39 ?_;refine Tk 9 40 ?_;refine Tc 11 (fun K hK=>?_);go_simp;clear hHeld;refine Th hK ?_ (fun hHeld=>?_)
        ·exact (HKc.out.alloc _).cj
        clear hK K;obtain⟨gE,hgE⟩:∃ g,g=v7.heap.size:=⟨_,rfl⟩;obtain⟨v8,hv8⟩:∃ W,W=v7.alloc (.cells #[.int .i64 0] 43):=⟨_,rfl⟩
        have hb9:Below v7.heap.size v7 v8:=by rw[hv8];exact Dt.box_below _ _ _
        have hvgE:v3.heap.size≤gE:=by rw[hgE];exact HBV.out.size
        have hwgE:w.heap.size≤gE:=by rw[hgE];exact HKc.out.below.size
        have hnpgE:p≠gE:=by have h:=World.block_lt_of_cell? v7 _ HKc.out.c0;dsimp only at h;omega
        have hnqgE:q≠gE:=by have h:=World.block_lt_of_cell? v7 _ HKc.out.c2;dsimp only at h;omega
        have hnsgE:s≠gE:=by have h:=World.block_lt_of_cell? v7 _ HKc.out.c6;dsimp only at h;omega
        have b0:v8.cell? ⟨gE,0,none⟩=some (.int .i64 0):=by rw[hv8,hgE];go_simp
        have hne9:gD≠gE:=by have h:=HF.out.1;omega
        have hne8:¬gE=gD:=fun h=>hne9 h.symm;have HN:=Lib.hid (HN.out.mono (ok':=fun b=>v3.heap.size≤b∧b≠gD∧b≠gE) (fun b hb hlt=>⟨hb.1,hb.2,by omega⟩));have HKc:=Lib.hid (HKc.out.later hb9);have R:=Lib.hid (RdT.later R.out hb9);have RX:=Lib.hid (RX.out.later hb9);have HKR:=Lib.hid (HKR.out.later hb9);have HFR:=Lib.hid (HFR.out.later hb9);have HFG:=Lib.hid (HFG.out.later hb9);have HBV:=Lib.hid (HBV.out.trans (hb9.mono HBV.out.size));have RG:=Lib.hid (RdT.later RG.out hb9);have HZ:=Lib.hid (HZ.out.later hb9);have HF:=Lib.hid (HF.out.later hb9);have HN:=Lib.hid (HN.out.later hb9);have HY:=Lib.hid ((Kept.nil_of HBV.out).cons_of b0);have HFE:Hid (Free gE v8):=⟨by rw[hv8,hgE];simp,fun j=>by rw[hv8,hgE];go_simp⟩;have hltgE:gE<v8.heap.size:=HFE.out.1;(try rw[← hv8]at hHeld);rw[← hv8];rw[← hgE];clear hgE hv8 hb9 b0
        obtain⟨z0,z1,z2,-⟩:=HZ.out.cj;have z3:=HY.out.c0;have m0:=HF.out.2 0;have m1:=HF.out.2 1;have m2:=HF.out.2 2;have m3:=HFE.out.2 0;refine Tc 12 (fun K hK=>?_);go_simp;refine Th hK ?_ (fun hHeld2=>?_)
        ·(try dsimp only)
         have h9:=HKc.out.st3 (g:=gD) hwgD (fun x hx=>by simp at hx;rcases hx with rfl | rfl | rfl | rfl | rfl | rfl | rfl | rfl <;> (dsimp only;omega)) (.slice Xe xe1 xe2) (.slice Xk xk1 xk2) (.slice Xc xc1 xc2)
         exact h9.cj
        clear hK K hHeld;have hHeld:=hHeld2;clear hHeld2;refine Tc 13 (fun K hK=>?_);go_simp;refine Th hK ?_ (fun hHeld2=>?_)
        ·(try dsimp only)
         have h9:=HKc.out
         have h9:=h9.set (a:=⟨gD,0,none⟩) hwgD (fun x hx=>by simp at hx;rcases hx with rfl | rfl | rfl | rfl | rfl | rfl | rfl | rfl <;> (dsimp only;omega)) (.slice Xe xe1 xe2)
         have h9:=h9.set (a:=⟨gD,1,none⟩) hwgD (fun x hx=>by simp at hx;rcases hx with rfl | rfl | rfl | rfl | rfl | rfl | rfl | rfl <;> (dsimp only;omega)) (.slice Xk xk1 xk2)
         have h9:=h9.set (a:=⟨gD,2,none⟩) hwgD (fun x hx=>by simp at hx;rcases hx with rfl | rfl | rfl | rfl | rfl | rfl | rfl | rfl <;> (dsimp only;omega)) (.slice Xc xc1 xc2)
         have h9:=h9.set (a:=⟨gE,0,none⟩) hwgE (fun x hx=>by simp at hx;rcases hx with rfl | rfl | rfl | rfl | rfl | rfl | rfl | rfl <;> (dsimp only;omega)) (.int .i64 zx)
         exact h9.cj
        clear hK K hHeld;have hHeld:=hHeld2;clear hHeld2;refine wpAnyH_done (by kernel_rfl) ?_ _;clear hHeld
        have HMID:Hid (Mid9 v3 gD gE ⟨kx,⟨Xe,xe1,xe2⟩,⟨Xk,xk1,xk2⟩,⟨Xc,xc1,xc2⟩⟩ zx ((((v8.setCell ⟨gD,0,none⟩ (.slice Xe xe1 xe2)).setCell ⟨gD,1,none⟩ (.slice Xk xk1 xk2)).setCell ⟨gD,2,none⟩ (.slice Xc xc1 xc2)).setCell ⟨gE,0,none⟩ (.int .i64 zx))):=by
         obtain⟨W8,hW8⟩:∃ W,W=((v8.setCell ⟨gD,0,none⟩ (.slice Xe xe1 xe2)).setCell ⟨gD,1,none⟩ (.slice Xk xk1 xk2)).setCell ⟨gD,2,none⟩ (.slice Xc xc1 xc2):=⟨_,rfl⟩;obtain⟨W9,hW9⟩:∃ W,W=W8.setCell ⟨gE,0,none⟩ (.int .i64 zx):=⟨_,rfl⟩;rw[← hW8,← hW9]
         have hb:Below v3.heap.size v3 W9:=by
          rw[hW9,hW8];exact ((((HBV.out.setCell (p:=⟨gD,0,none⟩) hvgD _).setCell (p:=⟨gD,1,none⟩) hvgD _).setCell (p:=⟨gD,2,none⟩) hvgD _).setCell (p:=⟨gE,0,none⟩) hvgE _)
         refine⟨hvgD,hvgE,hne9,HN.out.keep (by rw[hW9,hW8];simp[World.setCell]) (fun b hb _=>by rw[hW9,hW8];exact (Below.heap_setCell _ ⟨gE,0,none⟩ _ b (fun e=>hb.2.2 e)).trans (cells3_at b hb.2.1)),?_,?_,?_⟩
         ·refine ((((Kept.nil_of hb).cons_of ?_).cons_of ?_).cons_of ?_).cons_of ?_ <;> (rw[hW9,hW8];go_simp)
         ·rw[hW9,hW8]
          exact (((HF.out.set _ _).set _ _).set _ _).set _ _
         ·rw[hW9,hW8]
          exact (((HFE.out.set _ _).set _ _).set _ _).set _ _
        clear z0 z1 z2 z3 m0 m1 m2 m3;go_wp2_with fail;go_meet;exact⟨gD,gE,⟨kx,⟨Xe,xe1,xe2⟩,⟨Xk,xk1,xk2⟩,⟨Xc,xc1,xc2⟩⟩,zx,rfl,rfl,HMID.out,HUP.out⟩
       ·go_simp
        clear hHeld;refine Th hK ?_ (fun hHeld=>?_)
        ·exact (HKc.out.alloc _).cj
        clear hK K;obtain⟨gE,hgE⟩:∃ g,g=v6.heap.size:=⟨_,rfl⟩;obtain⟨v7,hv7⟩:∃ W,W=v6.alloc (.cells #[.int .i64 0] 43):=⟨_,rfl⟩
        have hb9:Below v6.heap.size v6 v7:=by rw[hv7];exact Dt.box_below _ _ _
        have hvgE:v3.heap.size≤gE:=by rw[hgE];exact HBV.out.size
        have hwgE:w.heap.size≤gE:=by rw[hgE];exact HKc.out.below.size
        have hnpgE:p≠gE:=by have h:=World.block_lt_of_cell? v6 _ HKc.out.c0;dsimp only at h;omega
        have hnqgE:q≠gE:=by have h:=World.block_lt_of_cell? v6 _ HKc.out.c2;dsimp only at h;omega
        have hnsgE:s≠gE:=by have h:=World.block_lt_of_cell? v6 _ HKc.out.c6;dsimp only at h;omega
        have b0:v7.cell? ⟨gE,0,none⟩=some (.int .i64 0):=by rw[hv7,hgE];go_simp
        have hne9:gD≠gE:=by have h:=HF.out.1;omega
        have hne8:¬gE=gD:=fun h=>hne9 h.symm;have HKc:=Lib.hid (HKc.out.later hb9);have R:=Lib.hid (RdT.later R.out hb9);have RX:=Lib.hid (RX.out.later hb9);have HKR:=Lib.hid (HKR.out.later hb9);have HFR:=Lib.hid (HFR.out.later hb9);have HFG:=Lib.hid (HFG.out.later hb9);have HBV:=Lib.hid (HBV.out.trans (hb9.mono HBV.out.size));have RG:=Lib.hid (RdT.later RG.out hb9);have HZ:=Lib.hid (HZ.out.later hb9);have HF:=Lib.hid (HF.out.later hb9);have HY:=Lib.hid ((Kept.nil_of HBV.out).cons_of b0);have HFE:Hid (Free gE v7):=⟨by rw[hv7,hgE];simp,fun j=>by rw[hv7,hgE];go_simp⟩;have hltgE:gE<v7.heap.size:=HFE.out.1;(try rw[← hv7]at hHeld);rw[← hv7];rw[← hgE];clear hgE hv7 hb9 b0;refine Tc 6 (fun K hK=>?_);go_simp;(go_at_call 48;refine (ochange_any t xp xa xs xv xA xn xc a n Ge Gk gn gm gc gd v7 HT.out HOK.out HY2.out N2.out RG.out).mono ?_)
        rintro e v8 ⟨kx,zx,Xe,xe1,xe2,Xk,xk1,xk2,Xc,xc1,xc2,rfl,how,hup,hb9⟩;have HN:Hid (NoC v8 (fun b=>v3.heap.size≤b∧b≠gD∧b≠gE) ⟨kx,⟨Xe,xe1,xe2⟩,⟨Xk,xk1,xk2⟩,⟨Xc,xc1,xc2⟩⟩):=NoC.of_own how.out (fun b hb _=>⟨Nat.le_trans HBV.out.size hb,by have h:=HF.out.1;omega,by have h:=HFE.out.1;omega⟩);have HUP:=Lib.hid hup.out;clear how hup;have HKc:=Lib.hid (HKc.out.later hb9);have R:=Lib.hid (RdT.later R.out hb9);have RX:=Lib.hid (RX.out.later hb9);have HKR:=Lib.hid (HKR.out.later hb9);have HFR:=Lib.hid (HFR.out.later hb9);have HFG:=Lib.hid (HFG.out.later hb9);have HBV:=Lib.hid (HBV.out.trans (hb9.mono HBV.out.size));have RG:=Lib.hid (RdT.later RG.out hb9);have HZ:=Lib.hid (HZ.out.later hb9);have HF:=Lib.hid (HF.out.later hb9);have HY:=Lib.hid (HY.out.later hb9);have HFE:=Lib.hid (HFE.out.later hb9);clear hb9
        obtain⟨z0,z1,z2,-⟩:=HZ.out.cj;have z3:=HY.out.c0;have m0:=HF.out.2 0;have m1:=HF.out.2 1;have m2:=HF.out.2 2;have m3:=HFE.out.2 0;clear hHeld;refine Th hK ?_ (fun hHeld=>?_)
        ·exact HKc.out.cj
        clear hK K;refine Tk 7 31 ?_;refine Tk 8 39 ?_;refine Tk 9 40 ?_;refine Tc 12 (fun K hK=>?_);go_simp;refine Th hK ?_ (fun hHeld2=>?_)
        ·(try dsimp only)
         have h9:=HKc.out.st3 (g:=gD) hwgD (fun x hx=>by simp at hx;rcases hx with rfl | rfl | rfl | rfl | rfl | rfl | rfl | rfl <;> (dsimp only;omega)) (.slice Xe xe1 xe2) (.slice Xk xk1 xk2) (.slice Xc xc1 xc2)
         exact h9.cj
        clear hK K hHeld;have hHeld:=hHeld2;clear hHeld2;refine Tc 13 (fun K hK=>?_);go_simp;refine Th hK ?_ (fun hHeld2=>?_)
        ·(try dsimp only)
         have h9:=HKc.out
         have h9:=h9.set (a:=⟨gD,0,none⟩) hwgD (fun x hx=>by simp at hx;rcases hx with rfl | rfl | rfl | rfl | rfl | rfl | rfl | rfl <;> (dsimp only;omega)) (.slice Xe xe1 xe2)
         have h9:=h9.set (a:=⟨gD,1,none⟩) hwgD (fun x hx=>by simp at hx;rcases hx with rfl | rfl | rfl | rfl | rfl | rfl | rfl | rfl <;> (dsimp only;omega)) (.slice Xk xk1 xk2)
         have h9:=h9.set (a:=⟨gD,2,none⟩) hwgD (fun x hx=>by simp at hx;rcases hx with rfl | rfl | rfl | rfl | rfl | rfl | rfl | rfl <;> (dsimp only;omega)) (.slice Xc xc1 xc2)
         have h9:=h9.set (a:=⟨gE,0,none⟩) hwgE (fun x hx=>by simp at hx;rcases hx with rfl | rfl | rfl | rfl | rfl | rfl | rfl | rfl <;> (dsimp only;omega)) (.int .i64 zx)
         exact h9.cj
        clear hK K hHeld;have hHeld:=hHeld2;clear hHeld2;refine wpAnyH_done (by kernel_rfl) ?_ _;clear hHeld
        have HMID:Hid (Mid9 v3 gD gE ⟨kx,⟨Xe,xe1,xe2⟩,⟨Xk,xk1,xk2⟩,⟨Xc,xc1,xc2⟩⟩ zx ((((v8.setCell ⟨gD,0,none⟩ (.slice Xe xe1 xe2)).setCell ⟨gD,1,none⟩ (.slice Xk xk1 xk2)).setCell ⟨gD,2,none⟩ (.slice Xc xc1 xc2)).setCell ⟨gE,0,none⟩ (.int .i64 zx))):=by
         obtain⟨W8,hW8⟩:∃ W,W=((v8.setCell ⟨gD,0,none⟩ (.slice Xe xe1 xe2)).setCell ⟨gD,1,none⟩ (.slice Xk xk1 xk2)).setCell ⟨gD,2,none⟩ (.slice Xc xc1 xc2):=⟨_,rfl⟩;obtain⟨W9,hW9⟩:∃ W,W=W8.setCell ⟨gE,0,none⟩ (.int .i64 zx):=⟨_,rfl⟩;rw[← hW8,← hW9]
         have hb:Below v3.heap.size v3 W9:=by
          rw[hW9,hW8];exact ((((HBV.out.setCell (p:=⟨gD,0,none⟩) hvgD _).setCell (p:=⟨gD,1,none⟩) hvgD _).setCell (p:=⟨gD,2,none⟩) hvgD _).setCell (p:=⟨gE,0,none⟩) hvgE _)
         refine⟨hvgD,hvgE,hne9,HN.out.keep (by rw[hW9,hW8];simp[World.setCell]) (fun b hb _=>by rw[hW9,hW8];exact (Below.heap_setCell _ ⟨gE,0,none⟩ _ b (fun e=>hb.2.2 e)).trans (cells3_at b hb.2.1)),?_,?_,?_⟩
         ·refine ((((Kept.nil_of hb).cons_of ?_).cons_of ?_).cons_of ?_).cons_of ?_ <;> (rw[hW9,hW8];go_simp)
         ·rw[hW9,hW8]
          exact (((HF.out.set _ _).set _ _).set _ _).set _ _
         ·rw[hW9,hW8]
          exact (((HFE.out.set _ _).set _ _).set _ _).set _ _
        clear z0 z1 z2 z3 m0 m1 m2 m3;go_wp2_with fail;go_meet;exact⟨gD,gE,⟨kx,⟨Xe,xe1,xe2⟩,⟨Xk,xk1,xk2⟩,⟨Xc,xc1,xc2⟩⟩,zx,rfl,rfl,HMID.out,HUP.out⟩
      ·go_simp
       clear hHeld;refine Th hK ?_ (fun hHeld=>?_)
       ·exact (HKc.out.alloc _).cj
       clear hK K;obtain⟨gE,hgE⟩:∃ g,g=v5.heap.size:=⟨_,rfl⟩;obtain⟨v6,hv6⟩:∃ W,W=v5.alloc (.cells #[.int .i64 0] 43):=⟨_,rfl⟩
       have hb9:Below v5.heap.size v5 v6:=by rw[hv6];exact Dt.box_below _ _ _
       have hvgE:v3.heap.size≤gE:=by rw[hgE];exact HBV.out.size
       have hwgE:w.heap.size≤gE:=by rw[hgE];exact HKc.out.below.size
       have hnpgE:p≠gE:=by have h:=World.block_lt_of_cell? v5 _ HKc.out.c0;dsimp only at h;omega
       have hnqgE:q≠gE:=by have h:=World.block_lt_of_cell? v5 _ HKc.out.c2;dsimp only at h;omega
       have hnsgE:s≠gE:=by have h:=World.block_lt_of_cell? v5 _ HKc.out.c6;dsimp only at h;omega
       have b0:v6.cell? ⟨gE,0,none⟩=some (.int .i64 0):=by rw[hv6,hgE];go_simp
       have HKc:=Lib.hid (HKc.out.later hb9);have R:=Lib.hid (RdT.later R.out hb9);have RX:=Lib.hid (RX.out.later hb9);have HKR:=Lib.hid (HKR.out.later hb9);have HFR:=Lib.hid (HFR.out.later hb9);have HFG:=Lib.hid (HFG.out.later hb9);have HBV:=Lib.hid (HBV.out.trans (hb9.mono HBV.out.size));have RG:=Lib.hid (RdT.later RG.out hb9);have HY:=Lib.hid ((Kept.nil_of HBV.out).cons_of b0);have HFE:Hid (Free gE v6):=⟨by rw[hv6,hgE];simp,fun j=>by rw[hv6,hgE];go_simp⟩;have hltgE:gE<v6.heap.size:=HFE.out.1;(try rw[← hv6]at hHeld);rw[← hv6];rw[← hgE];clear hgE hv6 hb9 b0;refine wpAnyH_ready (rs:=[6,10]) (by kernel_rfl) (by simp) ?_;refine AllReadyH.cons (o:=⟨some 38,_,_,_,_,_⟩) rfl (fun K hK=>?_) (AllReadyH.cons (o:=⟨some 10,_,_,_,_,_⟩) rfl (fun K hK=>?_) (AllReadyH.nil))
       ·go_simp
        (go_at_call 48;refine (ochange_any t xp xa xs xv xA xn xc a n Ge Gk gn gm gc gd v6 HT.out HOK.out HY2.out N2.out RG.out).mono ?_);rintro e v7 ⟨kx,zx,Xe,xe1,xe2,Xk,xk1,xk2,Xc,xc1,xc2,rfl,how,hup,hb9⟩;have HN:Hid (NoC v7 (fun b=>v3.heap.size≤b∧b≠gE) ⟨kx,⟨Xe,xe1,xe2⟩,⟨Xk,xk1,xk2⟩,⟨Xc,xc1,xc2⟩⟩):=NoC.of_own how.out (fun b hb _=>⟨Nat.le_trans HBV.out.size hb,by have h:=HFE.out.1;omega⟩);have HUP:=Lib.hid hup.out;clear how hup;have HKc:=Lib.hid (HKc.out.later hb9);have R:=Lib.hid (RdT.later R.out hb9);have RX:=Lib.hid (RX.out.later hb9);have HKR:=Lib.hid (HKR.out.later hb9);have HFR:=Lib.hid (HFR.out.later hb9);have HFG:=Lib.hid (HFG.out.later hb9);have HBV:=Lib.hid (HBV.out.trans (hb9.mono HBV.out.size));have RG:=Lib.hid (RdT.later RG.out hb9);have HY:=Lib.hid (HY.out.later hb9);have HFE:=Lib.hid (HFE.out.later hb9)
        clear hb9;clear hHeld;refine Th hK ?_ (fun hHeld=>?_)
        ·exact HKc.out.cj
        clear hK K;refine Tk 7 31 ?_;refine Tk 8 39 ?_;refine Tk 9 40 ?_;refine Tc 10 (fun K hK=>?_);go_simp;clear hHeld;refine Th hK ?_ (fun hHeld=>?_)
        ·exact (HKc.out.alloc _).cj
        clear hK K;obtain⟨gD,hgD⟩:∃ g,g=v7.heap.size:=⟨_,rfl⟩;obtain⟨v8,hv8⟩:∃ W,W=v7.alloc (.cells #[.slice none 0 0,.slice none 0 0,.slice none 0 0] 42):=⟨_,rfl⟩
        have hb9:Below v7.heap.size v7 v8:=by rw[hv8];exact Dt.box_below _ _ _
        have hvgD:v3.heap.size≤gD:=by rw[hgD];exact HBV.out.size
        have hwgD:w.heap.size≤gD:=by rw[hgD];exact HKc.out.below.size
        have hnpgD:p≠gD:=by have h:=World.block_lt_of_cell? v7 _ HKc.out.c0;dsimp only at h;omega
        have hnqgD:q≠gD:=by have h:=World.block_lt_of_cell? v7 _ HKc.out.c2;dsimp only at h;omega
        have hnsgD:s≠gD:=by have h:=World.block_lt_of_cell? v7 _ HKc.out.c6;dsimp only at h;omega
        have b0:v8.cell? ⟨gD,0,none⟩=some (.slice none 0 0):=by rw[hv8,hgD];go_simp
        have b1:v8.cell? ⟨gD,1,none⟩=some (.slice none 0 0):=by rw[hv8,hgD];go_simp
        have b2:v8.cell? ⟨gD,2,none⟩=some (.slice none 0 0):=by rw[hv8,hgD];go_simp
        have hne9:gD≠gE:=by have h:=HFE.out.1;omega
        have hne8:¬gE=gD:=fun h=>hne9 h.symm;have HN:=Lib.hid (HN.out.mono (ok':=fun b=>v3.heap.size≤b∧b≠gD∧b≠gE) (fun b hb hlt=>⟨hb.1,by omega,hb.2⟩));have HKc:=Lib.hid (HKc.out.later hb9);have R:=Lib.hid (RdT.later R.out hb9);have RX:=Lib.hid (RX.out.later hb9);have HKR:=Lib.hid (HKR.out.later hb9);have HFR:=Lib.hid (HFR.out.later hb9);have HFG:=Lib.hid (HFG.out.later hb9);have HBV:=Lib.hid (HBV.out.trans (hb9.mono HBV.out.size));have RG:=Lib.hid (RdT.later RG.out hb9);have HY:=Lib.hid (HY.out.later hb9);have HFE:=Lib.hid (HFE.out.later hb9);have HN:=Lib.hid (HN.out.later hb9);have HZ:=Lib.hid ((((Kept.nil_of HBV.out).cons_of b2).cons_of b1).cons_of b0);have HF:Hid (Free gD v8):=⟨by rw[hv8,hgD];simp,fun j=>by rw[hv8,hgD];go_simp⟩;have hltgD:gD<v8.heap.size:=HF.out.1;(try rw[← hv8]at hHeld);rw[← hv8]
        rw[← hgD];clear hgD hv8 hb9 b0 b1 b2;obtain⟨z0,z1,z2,-⟩:=HZ.out.cj;have z3:=HY.out.c0;have m0:=HF.out.2 0;have m1:=HF.out.2 1;have m2:=HF.out.2 2;have m3:=HFE.out.2 0;refine Tc 12 (fun K hK=>?_);go_simp;refine Th hK ?_ (fun hHeld2=>?_)
        ·(try dsimp only)
         have h9:=HKc.out.st3 (g:=gD) hwgD (fun x hx=>by simp at hx;rcases hx with rfl | rfl | rfl | rfl | rfl | rfl | rfl | rfl <;> (dsimp only;omega)) (.slice Xe xe1 xe2) (.slice Xk xk1 xk2) (.slice Xc xc1 xc2)
         exact h9.cj
        clear hK K hHeld;have hHeld:=hHeld2;clear hHeld2;refine Tc 13 (fun K hK=>?_);go_simp;refine Th hK ?_ (fun hHeld2=>?_)
        ·(try dsimp only)
         have h9:=HKc.out
         have h9:=h9.set (a:=⟨gD,0,none⟩) hwgD (fun x hx=>by simp at hx;rcases hx with rfl | rfl | rfl | rfl | rfl | rfl | rfl | rfl <;> (dsimp only;omega)) (.slice Xe xe1 xe2)
         have h9:=h9.set (a:=⟨gD,1,none⟩) hwgD (fun x hx=>by simp at hx;rcases hx with rfl | rfl | rfl | rfl | rfl | rfl | rfl | rfl <;> (dsimp only;omega)) (.slice Xk xk1 xk2)
         have h9:=h9.set (a:=⟨gD,2,none⟩) hwgD (fun x hx=>by simp at hx;rcases hx with rfl | rfl | rfl | rfl | rfl | rfl | rfl | rfl <;> (dsimp only;omega)) (.slice Xc xc1 xc2)
         have h9:=h9.set (a:=⟨gE,0,none⟩) hwgE (fun x hx=>by simp at hx;rcases hx with rfl | rfl | rfl | rfl | rfl | rfl | rfl | rfl <;> (dsimp only;omega)) (.int .i64 zx)
         exact h9.cj
        clear hK K hHeld;have hHeld:=hHeld2;clear hHeld2;refine wpAnyH_done (by kernel_rfl) ?_ _;clear hHeld
        have HMID:Hid (Mid9 v3 gD gE ⟨kx,⟨Xe,xe1,xe2⟩,⟨Xk,xk1,xk2⟩,⟨Xc,xc1,xc2⟩⟩ zx ((((v8.setCell ⟨gD,0,none⟩ (.slice Xe xe1 xe2)).setCell ⟨gD,1,none⟩ (.slice Xk xk1 xk2)).setCell ⟨gD,2,none⟩ (.slice Xc xc1 xc2)).setCell ⟨gE,0,none⟩ (.int .i64 zx))):=by
         obtain⟨W8,hW8⟩:∃ W,W=((v8.setCell ⟨gD,0,none⟩ (.slice Xe xe1 xe2)).setCell ⟨gD,1,none⟩ (.slice Xk xk1 xk2)).setCell ⟨gD,2,none⟩ (.slice Xc xc1 xc2):=⟨_,rfl⟩;obtain⟨W9,hW9⟩:∃ W,W=W8.setCell ⟨gE,0,none⟩ (.int .i64 zx):=⟨_,rfl⟩;rw[← hW8,← hW9]
         have hb:Below v3.heap.size v3 W9:=by
          rw[hW9,hW8];exact ((((HBV.out.setCell (p:=⟨gD,0,none⟩) hvgD _).setCell (p:=⟨gD,1,none⟩) hvgD _).setCell (p:=⟨gD,2,none⟩) hvgD _).setCell (p:=⟨gE,0,none⟩) hvgE _)
         refine⟨hvgD,hvgE,hne9,HN.out.keep (by rw[hW9,hW8];simp[World.setCell]) (fun b hb _=>by rw[hW9,hW8];exact (Below.heap_setCell _ ⟨gE,0,none⟩ _ b (fun e=>hb.2.2 e)).trans (cells3_at b hb.2.1)),?_,?_,?_⟩
         ·refine ((((Kept.nil_of hb).cons_of ?_).cons_of ?_).cons_of ?_).cons_of ?_ <;> (rw[hW9,hW8];go_simp)
         ·rw[hW9,hW8]
          exact (((HF.out.set _ _).set _ _).set _ _).set _ _
         ·rw[hW9,hW8]
          exact (((HFE.out.set _ _).set _ _).set _ _).set _ _
        clear z0 z1 z2 z3 m0 m1 m2 m3;go_wp2_with fail;go_meet;exact⟨gD,gE,⟨kx,⟨Xe,xe1,xe2⟩,⟨Xk,xk1,xk2⟩,⟨Xc,xc1,xc2⟩⟩,zx,rfl,rfl,HMID.out,HUP.out⟩
       ·go_simp
        clear hHeld;refine Th hK ?_ (fun hHeld=>?_)
        ·exact (HKc.out.alloc _).cj
        clear hK K;obtain⟨gD,hgD⟩:∃ g,g=v6.heap.size:=⟨_,rfl⟩;obtain⟨v7,hv7⟩:∃ W,W=v6.alloc (.cells #[.slice none 0 0,.slice none 0 0,.slice none 0 0] 42):=⟨_,rfl⟩
        have hb9:Below v6.heap.size v6 v7:=by rw[hv7];exact Dt.box_below _ _ _
        have hvgD:v3.heap.size≤gD:=by rw[hgD];exact HBV.out.size
        have hwgD:w.heap.size≤gD:=by rw[hgD];exact HKc.out.below.size
        have hnpgD:p≠gD:=by have h:=World.block_lt_of_cell? v6 _ HKc.out.c0;dsimp only at h;omega
        have hnqgD:q≠gD:=by have h:=World.block_lt_of_cell? v6 _ HKc.out.c2;dsimp only at h;omega
        have hnsgD:s≠gD:=by have h:=World.block_lt_of_cell? v6 _ HKc.out.c6;dsimp only at h;omega
        have b0:v7.cell? ⟨gD,0,none⟩=some (.slice none 0 0):=by rw[hv7,hgD];go_simp
        have b1:v7.cell? ⟨gD,1,none⟩=some (.slice none 0 0):=by rw[hv7,hgD];go_simp
        have b2:v7.cell? ⟨gD,2,none⟩=some (.slice none 0 0):=by rw[hv7,hgD];go_simp
        have hne9:gD≠gE:=by have h:=HFE.out.1;omega
        have hne8:¬gE=gD:=fun h=>hne9 h.symm;have HKc:=Lib.hid (HKc.out.later hb9);have R:=Lib.hid (RdT.later R.out hb9);have RX:=Lib.hid (RX.out.later hb9);have HKR:=Lib.hid (HKR.out.later hb9);have HFR:=Lib.hid (HFR.out.later hb9);have HFG:=Lib.hid (HFG.out.later hb9);have HBV:=Lib.hid (HBV.out.trans (hb9.mono HBV.out.size));have RG:=Lib.hid (RdT.later RG.out hb9);have HY:=Lib.hid (HY.out.later hb9);have HFE:=Lib.hid (HFE.out.later hb9);have HZ:=Lib.hid ((((Kept.nil_of HBV.out).cons_of b2).cons_of b1).cons_of b0);have HF:Hid (Free gD v7):=⟨by rw[hv7,hgD];simp,fun j=>by rw[hv7,hgD];go_simp⟩;have hltgD:gD<v7.heap.size:=HF.out.1;(try rw[← hv7]at hHeld);rw[← hv7];rw[← hgD];clear hgD hv7 hb9 b0 b1 b2;refine Tc 6 (fun K hK=>?_);go_simp;(go_at_call 48;refine (ochange_any t xp xa xs xv xA xn xc a n Ge Gk gn gm gc gd v7 HT.out HOK.out HY2.out N2.out RG.out).mono ?_)
        rintro e v8 ⟨kx,zx,Xe,xe1,xe2,Xk,xk1,xk2,Xc,xc1,xc2,rfl,how,hup,hb9⟩;have HN:Hid (NoC v8 (fun b=>v3.heap.size≤b∧b≠gD∧b≠gE) ⟨kx,⟨Xe,xe1,xe2⟩,⟨Xk,xk1,xk2⟩,⟨Xc,xc1,xc2⟩⟩):=NoC.of_own how.out (fun b hb _=>⟨Nat.le_trans HBV.out.size hb,by have h:=HF.out.1;omega,by have h:=HFE.out.1;omega⟩);have HUP:=Lib.hid hup.out;clear how hup;have HKc:=Lib.hid (HKc.out.later hb9);have R:=Lib.hid (RdT.later R.out hb9);have RX:=Lib.hid (RX.out.later hb9);have HKR:=Lib.hid (HKR.out.later hb9);have HFR:=Lib.hid (HFR.out.later hb9);have HFG:=Lib.hid (HFG.out.later hb9);have HBV:=Lib.hid (HBV.out.trans (hb9.mono HBV.out.size));have RG:=Lib.hid (RdT.later RG.out hb9);have HY:=Lib.hid (HY.out.later hb9);have HFE:=Lib.hid (HFE.out.later hb9);have HZ:=Lib.hid (HZ.out.later hb9);have HF:=Lib.hid (HF.out.later hb9);clear hb9
        obtain⟨z0,z1,z2,-⟩:=HZ.out.cj;have z3:=HY.out.c0;have m0:=HF.out.2 0;have m1:=HF.out.2 1;have m2:=HF.out.2 2;have m3:=HFE.out.2 0;clear hHeld;refine Th hK ?_ (fun hHeld=>?_)
        ·exact HKc.out.cj
        clear hK K;refine Tk 7 31 ?_;refine Tk 8 39 ?_;refine Tk 9 40 ?_;refine Tc 12 (fun K hK=>?_);go_simp;refine Th hK ?_ (fun hHeld2=>?_)
        ·(try dsimp only)
         have h9:=HKc.out.st3 (g:=gD) hwgD (fun x hx=>by simp at hx;rcases hx with rfl | rfl | rfl | rfl | rfl | rfl | rfl | rfl <;> (dsimp only;omega)) (.slice Xe xe1 xe2) (.slice Xk xk1 xk2) (.slice Xc xc1 xc2)
         exact h9.cj
        clear hK K hHeld;have hHeld:=hHeld2;clear hHeld2;refine Tc 13 (fun K hK=>?_);go_simp;refine Th hK ?_ (fun hHeld2=>?_)
        ·(try dsimp only)
         have h9:=HKc.out
         have h9:=h9.set (a:=⟨gD,0,none⟩) hwgD (fun x hx=>by simp at hx;rcases hx with rfl | rfl | rfl | rfl | rfl | rfl | rfl | rfl <;> (dsimp only;omega)) (.slice Xe xe1 xe2)
         have h9:=h9.set (a:=⟨gD,1,none⟩) hwgD (fun x hx=>by simp at hx;rcases hx with rfl | rfl | rfl | rfl | rfl | rfl | rfl | rfl <;> (dsimp only;omega)) (.slice Xk xk1 xk2)
         have h9:=h9.set (a:=⟨gD,2,none⟩) hwgD (fun x hx=>by simp at hx;rcases hx with rfl | rfl | rfl | rfl | rfl | rfl | rfl | rfl <;> (dsimp only;omega)) (.slice Xc xc1 xc2)
         have h9:=h9.set (a:=⟨gE,0,none⟩) hwgE (fun x hx=>by simp at hx;rcases hx with rfl | rfl | rfl | rfl | rfl | rfl | rfl | rfl <;> (dsimp only;omega)) (.int .i64 zx)
         exact h9.cj
        clear hK K hHeld;have hHeld:=hHeld2;clear hHeld2;refine wpAnyH_done (by kernel_rfl) ?_ _;clear hHeld
        have HMID:Hid (Mid9 v3 gD gE ⟨kx,⟨Xe,xe1,xe2⟩,⟨Xk,xk1,xk2⟩,⟨Xc,xc1,xc2⟩⟩ zx ((((v8.setCell ⟨gD,0,none⟩ (.slice Xe xe1 xe2)).setCell ⟨gD,1,none⟩ (.slice Xk xk1 xk2)).setCell ⟨gD,2,none⟩ (.slice Xc xc1 xc2)).setCell ⟨gE,0,none⟩ (.int .i64 zx))):=by
         obtain⟨W8,hW8⟩:∃ W,W=((v8.setCell ⟨gD,0,none⟩ (.slice Xe xe1 xe2)).setCell ⟨gD,1,none⟩ (.slice Xk xk1 xk2)).setCell ⟨gD,2,none⟩ (.slice Xc xc1 xc2):=⟨_,rfl⟩;obtain⟨W9,hW9⟩:∃ W,W=W8.setCell ⟨gE,0,none⟩ (.int .i64 zx):=⟨_,rfl⟩;rw[← hW8,← hW9]
         have hb:Below v3.heap.size v3 W9:=by
          rw[hW9,hW8];exact ((((HBV.out.setCell (p:=⟨gD,0,none⟩) hvgD _).setCell (p:=⟨gD,1,none⟩) hvgD _).setCell (p:=⟨gD,2,none⟩) hvgD _).setCell (p:=⟨gE,0,none⟩) hvgE _)
         refine⟨hvgD,hvgE,hne9,HN.out.keep (by rw[hW9,hW8];simp[World.setCell]) (fun b hb _=>by rw[hW9,hW8];exact (Below.heap_setCell _ ⟨gE,0,none⟩ _ b (fun e=>hb.2.2 e)).trans (cells3_at b hb.2.1)),?_,?_,?_⟩
         ·refine ((((Kept.nil_of hb).cons_of ?_).cons_of ?_).cons_of ?_).cons_of ?_ <;> (rw[hW9,hW8];go_simp)
         ·rw[hW9,hW8]
          exact (((HF.out.set _ _).set _ _).set _ _).set _ _
         ·rw[hW9,hW8]
          exact (((HFE.out.set _ _).set _ _).set _ _).set _ _
        clear z0 z1 z2 z3 m0 m1 m2 m3;go_wp2_with fail;go_meet;exact⟨gD,gE,⟨kx,⟨Xe,xe1,xe2⟩,⟨Xk,xk1,xk2⟩,⟨Xc,xc1,xc2⟩⟩,zx,rfl,rfl,HMID.out,HUP.out⟩
     ·go_simp
      clear hHeld;refine Th hK ?_ (fun hHeld=>?_)
      ·exact (HKc.out.alloc _).cj
      clear hK K;obtain⟨gD,hgD⟩:∃ g,g=v4.heap.size:=⟨_,rfl⟩;obtain⟨v5,hv5⟩:∃ W,W=v4.alloc (.cells #[.slice none 0 0,.slice none 0 0,.slice none 0 0] 42):=⟨_,rfl⟩
      have hb9:Below v4.heap.size v4 v5:=by rw[hv5];exact Dt.box_below _ _ _
      have hvgD:v3.heap.size≤gD:=by rw[hgD];exact HBV.out.size
      have hwgD:w.heap.size≤gD:=by rw[hgD];exact HKc.out.below.size
      have hnpgD:p≠gD:=by have h:=World.block_lt_of_cell? v4 _ HKc.out.c0;dsimp only at h;omega
      have hnqgD:q≠gD:=by have h:=World.block_lt_of_cell? v4 _ HKc.out.c2;dsimp only at h;omega
      have hnsgD:s≠gD:=by have h:=World.block_lt_of_cell? v4 _ HKc.out.c6;dsimp only at h;omega
      have b0:v5.cell? ⟨gD,0,none⟩=some (.slice none 0 0):=by rw[hv5,hgD];go_simp
      have b1:v5.cell? ⟨gD,1,none⟩=some (.slice none 0 0):=by rw[hv5,hgD];go_simp
      have b2:v5.cell? ⟨gD,2,none⟩=some (.slice none 0 0):=by rw[hv5,hgD];go_simp
      have HKc:=Lib.hid (HKc.out.later hb9);have R:=Lib.hid (RdT.later R.out hb9);have RX:=Lib.hid (RX.out.later hb9);have HKR:=Lib.hid (HKR.out.later hb9);have HFR:=Lib.hid (HFR.out.later hb9);have HFG:=Lib.hid (HFG.out.later hb9);have HBV:=Lib.hid (HBV.out.trans (hb9.mono HBV.out.size));have HZ:=Lib.hid ((((Kept.nil_of HBV.out).cons_of b2).cons_of b1).cons_of b0);have HF:Hid (Free gD v5):=⟨by rw[hv5,hgD];simp,fun j=>by rw[hv5,hgD];go_simp⟩;have hltgD:gD<v5.heap.size:=HF.out.1;(try rw[← hv5]at hHeld);rw[← hv5];rw[← hgD];clear hgD hv5 hb9 b0 b1 b2;refine wpAnyH_ready (rs:=[3,11]) (by kernel_rfl) (by simp) ?_;refine AllReadyH.cons (o:=⟨some 35,_,_,_,_,_⟩) rfl (fun K hK=>?_) (AllReadyH.cons (o:=⟨some 11,_,_,_,_,_⟩) rfl (fun K hK=>?_) (AllReadyH.nil))
      ·go_simp
       (go_at_call 49;refine (get_any t Ae Ak ne nk ce ck v5 xp xA xn xc HLX.out (by have:=N.out;omega) RX.out N.out.2.2 (by have:=N.out;omega) R.out).mono ?_);rintro e v6 ⟨Ge,gn,gc,Gk,gm,gd,rfl,hot,hb9⟩;rw[if_pos HTB.out]at hot;have RG:Hid (RdT v6 v6.heap.size (getT t xp) ⟨Ge,gn,gc⟩ ⟨Gk,gm,gd⟩):=hot.rd;clear hot;have HKc:=Lib.hid (HKc.out.later hb9);have R:=Lib.hid (RdT.later R.out hb9);have RX:=Lib.hid (RX.out.later hb9);have HKR:=Lib.hid (HKR.out.later hb9);have HFR:=Lib.hid (HFR.out.later hb9);have HFG:=Lib.hid (HFG.out.later hb9);have HBV:=Lib.hid (HBV.out.trans (hb9.mono HBV.out.size));have HZ:=Lib.hid (HZ.out.later hb9);have HF:=Lib.hid (HF.out.later hb9);clear hb9;clear hHeld;refine Th hK ?_ (fun hHeld=>?_)
       ·exact HKc.out.cj
       clear hK K;refine wpAnyH_ready (rs:=[6,11]) (by kernel_rfl) (by simp) ?_;refine AllReadyH.cons (o:=⟨some 38,_,_,_,_,_⟩) rfl (fun K hK=>?_) (AllReadyH.cons (o:=⟨some 11,_,_,_,_,_⟩) rfl (fun K hK=>?_) (AllReadyH.nil))
       ·go_simp
        (go_at_call 48;refine (ochange_any t xp xa xs xv xA xn xc a n Ge Gk gn gm gc gd v6 HT.out HOK.out HY2.out N2.out RG.out).mono ?_);rintro e v7 ⟨kx,zx,Xe,xe1,xe2,Xk,xk1,xk2,Xc,xc1,xc2,rfl,how,hup,hb9⟩;have HN:Hid (NoC v7 (fun b=>v3.heap.size≤b∧b≠gD) ⟨kx,⟨Xe,xe1,xe2⟩,⟨Xk,xk1,xk2⟩,⟨Xc,xc1,xc2⟩⟩):=NoC.of_own how.out (fun b hb _=>⟨Nat.le_trans HBV.out.size hb,by have h:=HF.out.1;omega⟩);have HUP:=Lib.hid hup.out;clear how hup;have HKc:=Lib.hid (HKc.out.later hb9);have R:=Lib.hid (RdT.later R.out hb9);have RX:=Lib.hid (RX.out.later hb9);have HKR:=Lib.hid (HKR.out.later hb9);have HFR:=Lib.hid (HFR.out.later hb9);have HFG:=Lib.hid (HFG.out.later hb9);have HBV:=Lib.hid (HBV.out.trans (hb9.mono HBV.out.size));have HZ:=Lib.hid (HZ.out.later hb9);have HF:=Lib.hid (HF.out.later hb9);have RG:=Lib.hid (RdT.later RG.out hb9)
        clear hb9;clear hHeld;refine Th hK ?_ (fun hHeld=>?_)
        ·exact HKc.out.cj
        clear hK K;refine Tk 7 31 ?_;refine Tk 8 39 ?_;refine Tk 9 40 ?_;refine Tc 11 (fun K hK=>?_);go_simp;clear hHeld;refine Th hK ?_ (fun hHeld=>?_)
        ·exact (HKc.out.alloc _).cj
        clear hK K;obtain⟨gE,hgE⟩:∃ g,g=v7.heap.size:=⟨_,rfl⟩;obtain⟨v8,hv8⟩:∃ W,W=v7.alloc (.cells #[.int .i64 0] 43):=⟨_,rfl⟩
        have hb9:Below v7.heap.size v7 v8:=by rw[hv8];exact Dt.box_below _ _ _
        have hvgE:v3.heap.size≤gE:=by rw[hgE];exact HBV.out.size
        have hwgE:w.heap.size≤gE:=by rw[hgE];exact HKc.out.below.size
        have hnpgE:p≠gE:=by have h:=World.block_lt_of_cell? v7 _ HKc.out.c0;dsimp only at h;omega
        have hnqgE:q≠gE:=by have h:=World.block_lt_of_cell? v7 _ HKc.out.c2;dsimp only at h;omega
        have hnsgE:s≠gE:=by have h:=World.block_lt_of_cell? v7 _ HKc.out.c6;dsimp only at h;omega
        have b0:v8.cell? ⟨gE,0,none⟩=some (.int .i64 0):=by rw[hv8,hgE];go_simp
        have hne9:gD≠gE:=by have h:=HF.out.1;omega
        have hne8:¬gE=gD:=fun h=>hne9 h.symm;have HN:=Lib.hid (HN.out.mono (ok':=fun b=>v3.heap.size≤b∧b≠gD∧b≠gE) (fun b hb hlt=>⟨hb.1,hb.2,by omega⟩));have HKc:=Lib.hid (HKc.out.later hb9);have R:=Lib.hid (RdT.later R.out hb9);have RX:=Lib.hid (RX.out.later hb9);have HKR:=Lib.hid (HKR.out.later hb9);have HFR:=Lib.hid (HFR.out.later hb9);have HFG:=Lib.hid (HFG.out.later hb9);have HBV:=Lib.hid (HBV.out.trans (hb9.mono HBV.out.size));have HZ:=Lib.hid (HZ.out.later hb9);have HF:=Lib.hid (HF.out.later hb9);have RG:=Lib.hid (RdT.later RG.out hb9);have HN:=Lib.hid (HN.out.later hb9);have HY:=Lib.hid ((Kept.nil_of HBV.out).cons_of b0);have HFE:Hid (Free gE v8):=⟨by rw[hv8,hgE];simp,fun j=>by rw[hv8,hgE];go_simp⟩;have hltgE:gE<v8.heap.size:=HFE.out.1;(try rw[← hv8]at hHeld);rw[← hv8];rw[← hgE];clear hgE hv8 hb9 b0
        obtain⟨z0,z1,z2,-⟩:=HZ.out.cj;have z3:=HY.out.c0;have m0:=HF.out.2 0;have m1:=HF.out.2 1;have m2:=HF.out.2 2;have m3:=HFE.out.2 0;refine Tc 12 (fun K hK=>?_);go_simp;refine Th hK ?_ (fun hHeld2=>?_)
        ·(try dsimp only)
         have h9:=HKc.out.st3 (g:=gD) hwgD (fun x hx=>by simp at hx;rcases hx with rfl | rfl | rfl | rfl | rfl | rfl | rfl | rfl <;> (dsimp only;omega)) (.slice Xe xe1 xe2) (.slice Xk xk1 xk2) (.slice Xc xc1 xc2)
         exact h9.cj
        clear hK K hHeld;have hHeld:=hHeld2;clear hHeld2;refine Tc 13 (fun K hK=>?_);go_simp;refine Th hK ?_ (fun hHeld2=>?_)
        ·(try dsimp only)
         have h9:=HKc.out
         have h9:=h9.set (a:=⟨gD,0,none⟩) hwgD (fun x hx=>by simp at hx;rcases hx with rfl | rfl | rfl | rfl | rfl | rfl | rfl | rfl <;> (dsimp only;omega)) (.slice Xe xe1 xe2)
         have h9:=h9.set (a:=⟨gD,1,none⟩) hwgD (fun x hx=>by simp at hx;rcases hx with rfl | rfl | rfl | rfl | rfl | rfl | rfl | rfl <;> (dsimp only;omega)) (.slice Xk xk1 xk2)
         have h9:=h9.set (a:=⟨gD,2,none⟩) hwgD (fun x hx=>by simp at hx;rcases hx with rfl | rfl | rfl | rfl | rfl | rfl | rfl | rfl <;> (dsimp only;omega)) (.slice Xc xc1 xc2)
         have h9:=h9.set (a:=⟨gE,0,none⟩) hwgE (fun x hx=>by simp at hx;rcases hx with rfl | rfl | rfl | rfl | rfl | rfl | rfl | rfl <;> (dsimp only;omega)) (.int .i64 zx)
         exact h9.cj
        clear hK K hHeld;have hHeld:=hHeld2;clear hHeld2;refine wpAnyH_done (by kernel_rfl) ?_ _;clear hHeld
        have HMID:Hid (Mid9 v3 gD gE ⟨kx,⟨Xe,xe1,xe2⟩,⟨Xk,xk1,xk2⟩,⟨Xc,xc1,xc2⟩⟩ zx ((((v8.setCell ⟨gD,0,none⟩ (.slice Xe xe1 xe2)).setCell ⟨gD,1,none⟩ (.slice Xk xk1 xk2)).setCell ⟨gD,2,none⟩ (.slice Xc xc1 xc2)).setCell ⟨gE,0,none⟩ (.int .i64 zx))):=by
         obtain⟨W8,hW8⟩:∃ W,W=((v8.setCell ⟨gD,0,none⟩ (.slice Xe xe1 xe2)).setCell ⟨gD,1,none⟩ (.slice Xk xk1 xk2)).setCell ⟨gD,2,none⟩ (.slice Xc xc1 xc2):=⟨_,rfl⟩;obtain⟨W9,hW9⟩:∃ W,W=W8.setCell ⟨gE,0,none⟩ (.int .i64 zx):=⟨_,rfl⟩;rw[← hW8,← hW9]
         have hb:Below v3.heap.size v3 W9:=by
          rw[hW9,hW8];exact ((((HBV.out.setCell (p:=⟨gD,0,none⟩) hvgD _).setCell (p:=⟨gD,1,none⟩) hvgD _).setCell (p:=⟨gD,2,none⟩) hvgD _).setCell (p:=⟨gE,0,none⟩) hvgE _)
         refine⟨hvgD,hvgE,hne9,HN.out.keep (by rw[hW9,hW8];simp[World.setCell]) (fun b hb _=>by rw[hW9,hW8];exact (Below.heap_setCell _ ⟨gE,0,none⟩ _ b (fun e=>hb.2.2 e)).trans (cells3_at b hb.2.1)),?_,?_,?_⟩
         ·refine ((((Kept.nil_of hb).cons_of ?_).cons_of ?_).cons_of ?_).cons_of ?_ <;> (rw[hW9,hW8];go_simp)
         ·rw[hW9,hW8]
          exact (((HF.out.set _ _).set _ _).set _ _).set _ _
         ·rw[hW9,hW8]
          exact (((HFE.out.set _ _).set _ _).set _ _).set _ _
        clear z0 z1 z2 z3 m0 m1 m2 m3;go_wp2_with fail;go_meet;exact⟨gD,gE,⟨kx,⟨Xe,xe1,xe2⟩,⟨Xk,xk1,xk2⟩,⟨Xc,xc1,xc2⟩⟩,zx,rfl,rfl,HMID.out,HUP.out⟩
       ·go_simp
        clear hHeld;refine Th hK ?_ (fun hHeld=>?_)
        ·exact (HKc.out.alloc _).cj
        clear hK K;obtain⟨gE,hgE⟩:∃ g,g=v6.heap.size:=⟨_,rfl⟩;obtain⟨v7,hv7⟩:∃ W,W=v6.alloc (.cells #[.int .i64 0] 43):=⟨_,rfl⟩
        have hb9:Below v6.heap.size v6 v7:=by rw[hv7];exact Dt.box_below _ _ _
        have hvgE:v3.heap.size≤gE:=by rw[hgE];exact HBV.out.size
        have hwgE:w.heap.size≤gE:=by rw[hgE];exact HKc.out.below.size
        have hnpgE:p≠gE:=by have h:=World.block_lt_of_cell? v6 _ HKc.out.c0;dsimp only at h;omega
        have hnqgE:q≠gE:=by have h:=World.block_lt_of_cell? v6 _ HKc.out.c2;dsimp only at h;omega
        have hnsgE:s≠gE:=by have h:=World.block_lt_of_cell? v6 _ HKc.out.c6;dsimp only at h;omega
        have b0:v7.cell? ⟨gE,0,none⟩=some (.int .i64 0):=by rw[hv7,hgE];go_simp
        have hne9:gD≠gE:=by have h:=HF.out.1;omega
        have hne8:¬gE=gD:=fun h=>hne9 h.symm;have HKc:=Lib.hid (HKc.out.later hb9);have R:=Lib.hid (RdT.later R.out hb9);have RX:=Lib.hid (RX.out.later hb9);have HKR:=Lib.hid (HKR.out.later hb9);have HFR:=Lib.hid (HFR.out.later hb9);have HFG:=Lib.hid (HFG.out.later hb9);have HBV:=Lib.hid (HBV.out.trans (hb9.mono HBV.out.size));have HZ:=Lib.hid (HZ.out.later hb9);have HF:=Lib.hid (HF.out.later hb9);have RG:=Lib.hid (RdT.later RG.out hb9);have HY:=Lib.hid ((Kept.nil_of HBV.out).cons_of b0);have HFE:Hid (Free gE v7):=⟨by rw[hv7,hgE];simp,fun j=>by rw[hv7,hgE];go_simp⟩;have hltgE:gE<v7.heap.size:=HFE.out.1;(try rw[← hv7]at hHeld);rw[← hv7];rw[← hgE];clear hgE hv7 hb9 b0;refine Tc 6 (fun K hK=>?_);go_simp;(go_at_call 48;refine (ochange_any t xp xa xs xv xA xn xc a n Ge Gk gn gm gc gd v7 HT.out HOK.out HY2.out N2.out RG.out).mono ?_)
        rintro e v8 ⟨kx,zx,Xe,xe1,xe2,Xk,xk1,xk2,Xc,xc1,xc2,rfl,how,hup,hb9⟩;have HN:Hid (NoC v8 (fun b=>v3.heap.size≤b∧b≠gD∧b≠gE) ⟨kx,⟨Xe,xe1,xe2⟩,⟨Xk,xk1,xk2⟩,⟨Xc,xc1,xc2⟩⟩):=NoC.of_own how.out (fun b hb _=>⟨Nat.le_trans HBV.out.size hb,by have h:=HF.out.1;omega,by have h:=HFE.out.1;omega⟩);have HUP:=Lib.hid hup.out;clear how hup;have HKc:=Lib.hid (HKc.out.later hb9);have R:=Lib.hid (RdT.later R.out hb9);have RX:=Lib.hid (RX.out.later hb9);have HKR:=Lib.hid (HKR.out.later hb9);have HFR:=Lib.hid (HFR.out.later hb9);have HFG:=Lib.hid (HFG.out.later hb9);have HBV:=Lib.hid (HBV.out.trans (hb9.mono HBV.out.size));have HZ:=Lib.hid (HZ.out.later hb9);have HF:=Lib.hid (HF.out.later hb9);have RG:=Lib.hid (RdT.later RG.out hb9);have HY:=Lib.hid (HY.out.later hb9);have HFE:=Lib.hid (HFE.out.later hb9);clear hb9
        obtain⟨z0,z1,z2,-⟩:=HZ.out.cj;have z3:=HY.out.c0;have m0:=HF.out.2 0;have m1:=HF.out.2 1;have m2:=HF.out.2 2;have m3:=HFE.out.2 0;clear hHeld;refine Th hK ?_ (fun hHeld=>?_)
        ·exact HKc.out.cj
        clear hK K;refine Tk 7 31 ?_;refine Tk 8 39 ?_;refine Tk 9 40 ?_;refine Tc 12 (fun K hK=>?_);go_simp;refine Th hK ?_ (fun hHeld2=>?_)
        ·(try dsimp only)
         have h9:=HKc.out.st3 (g:=gD) hwgD (fun x hx=>by simp at hx;rcases hx with rfl | rfl | rfl | rfl | rfl | rfl | rfl | rfl <;> (dsimp only;omega)) (.slice Xe xe1 xe2) (.slice Xk xk1 xk2) (.slice Xc xc1 xc2)
         exact h9.cj
        clear hK K hHeld;have hHeld:=hHeld2;clear hHeld2;refine Tc 13 (fun K hK=>?_);go_simp;refine Th hK ?_ (fun hHeld2=>?_)
        ·(try dsimp only)
         have h9:=HKc.out
         have h9:=h9.set (a:=⟨gD,0,none⟩) hwgD (fun x hx=>by simp at hx;rcases hx with rfl | rfl | rfl | rfl | rfl | rfl | rfl | rfl <;> (dsimp only;omega)) (.slice Xe xe1 xe2)
         have h9:=h9.set (a:=⟨gD,1,none⟩) hwgD (fun x hx=>by simp at hx;rcases hx with rfl | rfl | rfl | rfl | rfl | rfl | rfl | rfl <;> (dsimp only;omega)) (.slice Xk xk1 xk2)
         have h9:=h9.set (a:=⟨gD,2,none⟩) hwgD (fun x hx=>by simp at hx;rcases hx with rfl | rfl | rfl | rfl | rfl | rfl | rfl | rfl <;> (dsimp only;omega)) (.slice Xc xc1 xc2)
         have h9:=h9.set (a:=⟨gE,0,none⟩) hwgE (fun x hx=>by simp at hx;rcases hx with rfl | rfl | rfl | rfl | rfl | rfl | rfl | rfl <;> (dsimp only;omega)) (.int .i64 zx)
         exact h9.cj
        clear hK K hHeld;have hHeld:=hHeld2;clear hHeld2;refine wpAnyH_done (by kernel_rfl) ?_ _;clear hHeld
        have HMID:Hid (Mid9 v3 gD gE ⟨kx,⟨Xe,xe1,xe2⟩,⟨Xk,xk1,xk2⟩,⟨Xc,xc1,xc2⟩⟩ zx ((((v8.setCell ⟨gD,0,none⟩ (.slice Xe xe1 xe2)).setCell ⟨gD,1,none⟩ (.slice Xk xk1 xk2)).setCell ⟨gD,2,none⟩ (.slice Xc xc1 xc2)).setCell ⟨gE,0,none⟩ (.int .i64 zx))):=by
         obtain⟨W8,hW8⟩:∃ W,W=((v8.setCell ⟨gD,0,none⟩ (.slice Xe xe1 xe2)).setCell ⟨gD,1,none⟩ (.slice Xk xk1 xk2)).setCell ⟨gD,2,none⟩ (.slice Xc xc1 xc2):=⟨_,rfl⟩;obtain⟨W9,hW9⟩:∃ W,W=W8.setCell ⟨gE,0,none⟩ (.int .i64 zx):=⟨_,rfl⟩;rw[← hW8,← hW9]
         have hb:Below v3.heap.size v3 W9:=by
          rw[hW9,hW8];exact ((((HBV.out.setCell (p:=⟨gD,0,none⟩) hvgD _).setCell (p:=⟨gD,1,none⟩) hvgD _).setCell (p:=⟨gD,2,none⟩) hvgD _).setCell (p:=⟨gE,0,none⟩) hvgE _)
         refine⟨hvgD,hvgE,hne9,HN.out.keep (by rw[hW9,hW8];simp[World.setCell]) (fun b hb _=>by rw[hW9,hW8];exact (Below.heap_setCell _ ⟨gE,0,none⟩ _ b (fun e=>hb.2.2 e)).trans (cells3_at b hb.2.1)),?_,?_,?_⟩
         ·refine ((((Kept.nil_of hb).cons_of ?_).cons_of ?_).cons_of ?_).cons_of ?_ <;> (rw[hW9,hW8];go_simp)
         ·rw[hW9,hW8]
          exact (((HF.out.set _ _).set _ _).set _ _).set _ _
         ·rw[hW9,hW8]
          exact (((HFE.out.set _ _).set _ _).set _ _).set _ _
        clear z0 z1 z2 z3 m0 m1 m2 m3;go_wp2_with fail;go_meet;exact⟨gD,gE,⟨kx,⟨Xe,xe1,xe2⟩,⟨Xk,xk1,xk2⟩,⟨Xc,xc1,xc2⟩⟩,zx,rfl,rfl,HMID.out,HUP.out⟩
      ·go_simp
       clear hHeld;refine Th hK ?_ (fun hHeld=>?_)
       ·exact (HKc.out.alloc _).cj
       clear hK K;obtain⟨gE,hgE⟩:∃ g,g=v5.heap.size:=⟨_,rfl⟩;obtain⟨v6,hv6⟩:∃ W,W=v5.alloc (.cells #[.int .i64 0] 43):=⟨_,rfl⟩
       have hb9:Below v5.heap.size v5 v6:=by rw[hv6];exact Dt.box_below _ _ _
       have hvgE:v3.heap.size≤gE:=by rw[hgE];exact HBV.out.size
       have hwgE:w.heap.size≤gE:=by rw[hgE];exact HKc.out.below.size
       have hnpgE:p≠gE:=by have h:=World.block_lt_of_cell? v5 _ HKc.out.c0;dsimp only at h;omega
       have hnqgE:q≠gE:=by have h:=World.block_lt_of_cell? v5 _ HKc.out.c2;dsimp only at h;omega
       have hnsgE:s≠gE:=by have h:=World.block_lt_of_cell? v5 _ HKc.out.c6;dsimp only at h;omega
       have b0:v6.cell? ⟨gE,0,none⟩=some (.int .i64 0):=by rw[hv6,hgE];go_simp
       have hne9:gD≠gE:=by have h:=HF.out.1;omega
       have hne8:¬gE=gD:=fun h=>hne9 h.symm;have HKc:=Lib.hid (HKc.out.later hb9);have R:=Lib.hid (RdT.later R.out hb9);have RX:=Lib.hid (RX.out.later hb9);have HKR:=Lib.hid (HKR.out.later hb9);have HFR:=Lib.hid (HFR.out.later hb9);have HFG:=Lib.hid (HFG.out.later hb9);have HBV:=Lib.hid (HBV.out.trans (hb9.mono HBV.out.size));have HZ:=Lib.hid (HZ.out.later hb9);have HF:=Lib.hid (HF.out.later hb9);have HY:=Lib.hid ((Kept.nil_of HBV.out).cons_of b0);have HFE:Hid (Free gE v6):=⟨by rw[hv6,hgE];simp,fun j=>by rw[hv6,hgE];go_simp⟩;have hltgE:gE<v6.heap.size:=HFE.out.1;(try rw[← hv6]at hHeld);rw[← hv6];rw[← hgE];clear hgE hv6 hb9 b0;refine Tc 3 (fun K hK=>?_);go_simp;(go_at_call 49;refine (get_any t Ae Ak ne nk ce ck v6 xp xA xn xc HLX.out (by have:=N.out;omega) RX.out N.out.2.2 (by have:=N.out;omega) R.out).mono ?_)
       rintro e v7 ⟨Ge,gn,gc,Gk,gm,gd,rfl,hot,hb9⟩;rw[if_pos HTB.out]at hot;have RG:Hid (RdT v7 v7.heap.size (getT t xp) ⟨Ge,gn,gc⟩ ⟨Gk,gm,gd⟩):=hot.rd;clear hot;have HKc:=Lib.hid (HKc.out.later hb9);have R:=Lib.hid (RdT.later R.out hb9);have RX:=Lib.hid (RX.out.later hb9);have HKR:=Lib.hid (HKR.out.later hb9);have HFR:=Lib.hid (HFR.out.later hb9);have HFG:=Lib.hid (HFG.out.later hb9);have HBV:=Lib.hid (HBV.out.trans (hb9.mono HBV.out.size));have HZ:=Lib.hid (HZ.out.later hb9);have HF:=Lib.hid (HF.out.later hb9);have HY:=Lib.hid (HY.out.later hb9);have HFE:=Lib.hid (HFE.out.later hb9);clear hb9;clear hHeld;refine Th hK ?_ (fun hHeld=>?_)
       ·exact HKc.out.cj
       clear hK K;refine Tc 6 (fun K hK=>?_);go_simp;(go_at_call 48;refine (ochange_any t xp xa xs xv xA xn xc a n Ge Gk gn gm gc gd v7 HT.out HOK.out HY2.out N2.out RG.out).mono ?_);rintro e v8 ⟨kx,zx,Xe,xe1,xe2,Xk,xk1,xk2,Xc,xc1,xc2,rfl,how,hup,hb9⟩;have HN:Hid (NoC v8 (fun b=>v3.heap.size≤b∧b≠gD∧b≠gE) ⟨kx,⟨Xe,xe1,xe2⟩,⟨Xk,xk1,xk2⟩,⟨Xc,xc1,xc2⟩⟩):=NoC.of_own how.out (fun b hb _=>⟨Nat.le_trans HBV.out.size hb,by have h:=HF.out.1;omega,by have h:=HFE.out.1;omega⟩);have HUP:=Lib.hid hup.out;clear how hup;have HKc:=Lib.hid (HKc.out.later hb9);have R:=Lib.hid (RdT.later R.out hb9);have RX:=Lib.hid (RX.out.later hb9);have HKR:=Lib.hid (HKR.out.later hb9);have HFR:=Lib.hid (HFR.out.later hb9);have HFG:=Lib.hid (HFG.out.later hb9);have HBV:=Lib.hid (HBV.out.trans (hb9.mono HBV.out.size));have HZ:=Lib.hid (HZ.out.later hb9)
       have HF:=Lib.hid (HF.out.later hb9);have HY:=Lib.hid (HY.out.later hb9);have HFE:=Lib.hid (HFE.out.later hb9);have RG:=Lib.hid (RdT.later RG.out hb9);clear hb9;obtain⟨z0,z1,z2,-⟩:=HZ.out.cj;have z3:=HY.out.c0;have m0:=HF.out.2 0;have m1:=HF.out.2 1;have m2:=HF.out.2 2;have m3:=HFE.out.2 0;clear hHeld;refine Th hK ?_ (fun hHeld=>?_)
       ·exact HKc.out.cj
       clear hK K;refine Tk 7 31 ?_;refine Tk 8 39 ?_;refine Tk 9 40 ?_;refine Tc 12 (fun K hK=>?_);go_simp;refine Th hK ?_ (fun hHeld2=>?_)
       ·(try dsimp only)
        have h9:=HKc.out.st3 (g:=gD) hwgD (fun x hx=>by simp at hx;rcases hx with rfl | rfl | rfl | rfl | rfl | rfl | rfl | rfl <;> (dsimp only;omega)) (.slice Xe xe1 xe2) (.slice Xk xk1 xk2) (.slice Xc xc1 xc2)
        exact h9.cj
       clear hK K hHeld;have hHeld:=hHeld2;clear hHeld2;refine Tc 13 (fun K hK=>?_);go_simp;refine Th hK ?_ (fun hHeld2=>?_)
       ·(try dsimp only)
        have h9:=HKc.out
        have h9:=h9.set (a:=⟨gD,0,none⟩) hwgD (fun x hx=>by simp at hx;rcases hx with rfl | rfl | rfl | rfl | rfl | rfl | rfl | rfl <;> (dsimp only;omega)) (.slice Xe xe1 xe2)
        have h9:=h9.set (a:=⟨gD,1,none⟩) hwgD (fun x hx=>by simp at hx;rcases hx with rfl | rfl | rfl | rfl | rfl | rfl | rfl | rfl <;> (dsimp only;omega)) (.slice Xk xk1 xk2)
        have h9:=h9.set (a:=⟨gD,2,none⟩) hwgD (fun x hx=>by simp at hx;rcases hx with rfl | rfl | rfl | rfl | rfl | rfl | rfl | rfl <;> (dsimp only;omega)) (.slice Xc xc1 xc2)
        have h9:=h9.set (a:=⟨gE,0,none⟩) hwgE (fun x hx=>by simp at hx;rcases hx with rfl | rfl | rfl | rfl | rfl | rfl | rfl | rfl <;> (dsimp only;omega)) (.int .i64 zx)
        exact h9.cj
       clear hK K hHeld;have hHeld:=hHeld2;clear hHeld2;refine wpAnyH_done (by kernel_rfl) ?_ _;clear hHeld
       have HMID:Hid (Mid9 v3 gD gE ⟨kx,⟨Xe,xe1,xe2⟩,⟨Xk,xk1,xk2⟩,⟨Xc,xc1,xc2⟩⟩ zx ((((v8.setCell ⟨gD,0,none⟩ (.slice Xe xe1 xe2)).setCell ⟨gD,1,none⟩ (.slice Xk xk1 xk2)).setCell ⟨gD,2,none⟩ (.slice Xc xc1 xc2)).setCell ⟨gE,0,none⟩ (.int .i64 zx))):=by
        obtain⟨W8,hW8⟩:∃ W,W=((v8.setCell ⟨gD,0,none⟩ (.slice Xe xe1 xe2)).setCell ⟨gD,1,none⟩ (.slice Xk xk1 xk2)).setCell ⟨gD,2,none⟩ (.slice Xc xc1 xc2):=⟨_,rfl⟩;obtain⟨W9,hW9⟩:∃ W,W=W8.setCell ⟨gE,0,none⟩ (.int .i64 zx):=⟨_,rfl⟩;rw[← hW8,← hW9]
        have hb:Below v3.heap.size v3 W9:=by
         rw[hW9,hW8];exact ((((HBV.out.setCell (p:=⟨gD,0,none⟩) hvgD _).setCell (p:=⟨gD,1,none⟩) hvgD _).setCell (p:=⟨gD,2,none⟩) hvgD _).setCell (p:=⟨gE,0,none⟩) hvgE _)
        refine⟨hvgD,hvgE,hne9,HN.out.keep (by rw[hW9,hW8];simp[World.setCell]) (fun b hb _=>by rw[hW9,hW8];exact (Below.heap_setCell _ ⟨gE,0,none⟩ _ b (fun e=>hb.2.2 e)).trans (cells3_at b hb.2.1)),?_,?_,?_⟩
        ·refine ((((Kept.nil_of hb).cons_of ?_).cons_of ?_).cons_of ?_).cons_of ?_ <;> (rw[hW9,hW8];go_simp)
        ·rw[hW9,hW8]
         exact (((HF.out.set _ _).set _ _).set _ _).set _ _
        ·rw[hW9,hW8]
         exact (((HFE.out.set _ _).set _ _).set _ _).set _ _
       clear z0 z1 z2 z3 m0 m1 m2 m3;go_wp2_with fail;go_meet;exact⟨gD,gE,⟨kx,⟨Xe,xe1,xe2⟩,⟨Xk,xk1,xk2⟩,⟨Xc,xc1,xc2⟩⟩,zx,rfl,rfl,HMID.out,HUP.out⟩
     ·go_simp
      clear hHeld;refine Th hK ?_ (fun hHeld=>?_)
      ·exact (HKc.out.alloc _).cj
      clear hK K;obtain⟨gE,hgE⟩:∃ g,g=v4.heap.size:=⟨_,rfl⟩;obtain⟨v5,hv5⟩:∃ W,W=v4.alloc (.cells #[.int .i64 0] 43):=⟨_,rfl⟩
      have hb9:Below v4.heap.size v4 v5:=by rw[hv5];exact Dt.box_below _ _ _
      have hvgE:v3.heap.size≤gE:=by rw[hgE];exact HBV.out.size
      have hwgE:w.heap.size≤gE:=by rw[hgE];exact HKc.out.below.size
      have hnpgE:p≠gE:=by have h:=World.block_lt_of_cell? v4 _ HKc.out.c0;dsimp only at h;omega
      have hnqgE:q≠gE:=by have h:=World.block_lt_of_cell? v4 _ HKc.out.c2;dsimp only at h;omega
      have hnsgE:s≠gE:=by have h:=World.block_lt_of_cell? v4 _ HKc.out.c6;dsimp only at h;omega
      have b0:v5.cell? ⟨gE,0,none⟩=some (.int .i64 0):=by rw[hv5,hgE];go_simp
      have HKc:=Lib.hid (HKc.out.later hb9);have R:=Lib.hid (RdT.later R.out hb9);have RX:=Lib.hid (RX.out.later hb9);have HKR:=Lib.hid (HKR.out.later hb9);have HFR:=Lib.hid (HFR.out.later hb9);have HFG:=Lib.hid (HFG.out.later hb9);have HBV:=Lib.hid (HBV.out.trans (hb9.mono HBV.out.size));have HY:=Lib.hid ((Kept.nil_of HBV.out).cons_of b0);have HFE:Hid (Free gE v5):=⟨by rw[hv5,hgE];simp,fun j=>by rw[hv5,hgE];go_simp⟩;have hltgE:gE<v5.heap.size:=HFE.out.1;(try rw[← hv5]at hHeld);rw[← hv5];rw[← hgE];clear hgE hv5 hb9 b0;refine wpAnyH_ready (rs:=[3,10]) (by kernel_rfl) (by simp) ?_;refine AllReadyH.cons (o:=⟨some 35,_,_,_,_,_⟩) rfl (fun K hK=>?_) (AllReadyH.cons (o:=⟨some 10,_,_,_,_,_⟩) rfl (fun K hK=>?_) (AllReadyH.nil))
      ·go_simp
       (go_at_call 49;refine (get_any t Ae Ak ne nk ce ck v5 xp xA xn xc HLX.out (by have:=N.out;omega) RX.out N.out.2.2 (by have:=N.out;omega) R.out).mono ?_);rintro e v6 ⟨Ge,gn,gc,Gk,gm,gd,rfl,hot,hb9⟩;rw[if_pos HTB.out]at hot;have RG:Hid (RdT v6 v6.heap.size (getT t xp) ⟨Ge,gn,gc⟩ ⟨Gk,gm,gd⟩):=hot.rd;clear hot;have HKc:=Lib.hid (HKc.out.later hb9);have R:=Lib.hid (RdT.later R.out hb9);have RX:=Lib.hid (RX.out.later hb9);have HKR:=Lib.hid (HKR.out.later hb9);have HFR:=Lib.hid (HFR.out.later hb9);have HFG:=Lib.hid (HFG.out.later hb9);have HBV:=Lib.hid (HBV.out.trans (hb9.mono HBV.out.size));have HY:=Lib.hid (HY.out.later hb9);have HFE:=Lib.hid (HFE.out.later hb9);clear hb9;clear hHeld;refine Th hK ?_ (fun hHeld=>?_)
       ·exact HKc.out.cj
       clear hK K;refine wpAnyH_ready (rs:=[6,10]) (by kernel_rfl) (by simp) ?_;refine AllReadyH.cons (o:=⟨some 38,_,_,_,_,_⟩) rfl (fun K hK=>?_) (AllReadyH.cons (o:=⟨some 10,_,_,_,_,_⟩) rfl (fun K hK=>?_) (AllReadyH.nil))
       ·go_simp
        (go_at_call 48;refine (ochange_any t xp xa xs xv xA xn xc a n Ge Gk gn gm gc gd v6 HT.out HOK.out HY2.out N2.out RG.out).mono ?_);rintro e v7 ⟨kx,zx,Xe,xe1,xe2,Xk,xk1,xk2,Xc,xc1,xc2,rfl,how,hup,hb9⟩;have HN:Hid (NoC v7 (fun b=>v3.heap.size≤b∧b≠gE) ⟨kx,⟨Xe,xe1,xe2⟩,⟨Xk,xk1,xk2⟩,⟨Xc,xc1,xc2⟩⟩):=NoC.of_own how.out (fun b hb _=>⟨Nat.le_trans HBV.out.size hb,by have h:=HFE.out.1;omega⟩);have HUP:=Lib.hid hup.out;clear how hup;have HKc:=Lib.hid (HKc.out.later hb9);have R:=Lib.hid (RdT.later R.out hb9);have RX:=Lib.hid (RX.out.later hb9);have HKR:=Lib.hid (HKR.out.later hb9);have HFR:=Lib.hid (HFR.out.later hb9);have HFG:=Lib.hid (HFG.out.later hb9);have HBV:=Lib.hid (HBV.out.trans (hb9.mono HBV.out.size));have HY:=Lib.hid (HY.out.later hb9);have HFE:=Lib.hid (HFE.out.later hb9);have RG:=Lib.hid (RdT.later RG.out hb9)
        clear hb9;clear hHeld;refine Th hK ?_ (fun hHeld=>?_)
        ·exact HKc.out.cj
        clear hK K;refine Tk 7 31 ?_;refine Tk 8 39 ?_;refine Tk 9 40 ?_;refine Tc 10 (fun K hK=>?_);go_simp;clear hHeld;refine Th hK ?_ (fun hHeld=>?_)
        ·exact (HKc.out.alloc _).cj
        clear hK K;obtain⟨gD,hgD⟩:∃ g,g=v7.heap.size:=⟨_,rfl⟩;obtain⟨v8,hv8⟩:∃ W,W=v7.alloc (.cells #[.slice none 0 0,.slice none 0 0,.slice none 0 0] 42):=⟨_,rfl⟩
        have hb9:Below v7.heap.size v7 v8:=by rw[hv8];exact Dt.box_below _ _ _
        have hvgD:v3.heap.size≤gD:=by rw[hgD];exact HBV.out.size
        have hwgD:w.heap.size≤gD:=by rw[hgD];exact HKc.out.below.size
        have hnpgD:p≠gD:=by have h:=World.block_lt_of_cell? v7 _ HKc.out.c0;dsimp only at h;omega
        have hnqgD:q≠gD:=by have h:=World.block_lt_of_cell? v7 _ HKc.out.c2;dsimp only at h;omega
        have hnsgD:s≠gD:=by have h:=World.block_lt_of_cell? v7 _ HKc.out.c6;dsimp only at h;omega
        have b0:v8.cell? ⟨gD,0,none⟩=some (.slice none 0 0):=by rw[hv8,hgD];go_simp
        have b1:v8.cell? ⟨gD,1,none⟩=some (.slice none 0 0):=by rw[hv8,hgD];go_simp
        have b2:v8.cell? ⟨gD,2,none⟩=some (.slice none 0 0):=by rw[hv8,hgD];go_simp
        have hne9:gD≠gE:=by have h:=HFE.out.1;omega
        have hne8:¬gE=gD:=fun h=>hne9 h.symm;have HN:=Lib.hid (HN.out.mono (ok':=fun b=>v3.heap.size≤b∧b≠gD∧b≠gE) (fun b hb hlt=>⟨hb.1,by omega,hb.2⟩));have HKc:=Lib.hid (HKc.out.later hb9);have R:=Lib.hid (RdT.later R.out hb9);have RX:=Lib.hid (RX.out.later hb9);have HKR:=Lib.hid (HKR.out.later hb9);have HFR:=Lib.hid (HFR.out.later hb9);have HFG:=Lib.hid (HFG.out.later hb9);have HBV:=Lib.hid (HBV.out.trans (hb9.mono HBV.out.size));have HY:=Lib.hid (HY.out.later hb9);have HFE:=Lib.hid (HFE.out.later hb9);have RG:=Lib.hid (RdT.later RG.out hb9);have HN:=Lib.hid (HN.out.later hb9);have HZ:=Lib.hid ((((Kept.nil_of HBV.out).cons_of b2).cons_of b1).cons_of b0);have HF:Hid (Free gD v8):=⟨by rw[hv8,hgD];simp,fun j=>by rw[hv8,hgD];go_simp⟩;have hltgD:gD<v8.heap.size:=HF.out.1;(try rw[← hv8]at hHeld);rw[← hv8]
        rw[← hgD];clear hgD hv8 hb9 b0 b1 b2;obtain⟨z0,z1,z2,-⟩:=HZ.out.cj;have z3:=HY.out.c0;have m0:=HF.out.2 0;have m1:=HF.out.2 1;have m2:=HF.out.2 2;have m3:=HFE.out.2 0;refine Tc 12 (fun K hK=>?_);go_simp;refine Th hK ?_ (fun hHeld2=>?_)
        ·(try dsimp only)
         have h9:=HKc.out.st3 (g:=gD) hwgD (fun x hx=>by simp at hx;rcases hx with rfl | rfl | rfl | rfl | rfl | rfl | rfl | rfl <;> (dsimp only;omega)) (.slice Xe xe1 xe2) (.slice Xk xk1 xk2) (.slice Xc xc1 xc2)
         exact h9.cj
        clear hK K hHeld;have hHeld:=hHeld2;clear hHeld2;refine Tc 13 (fun K hK=>?_);go_simp;refine Th hK ?_ (fun hHeld2=>?_)
        ·(try dsimp only)
         have h9:=HKc.out
         have h9:=h9.set (a:=⟨gD,0,none⟩) hwgD (fun x hx=>by simp at hx;rcases hx with rfl | rfl | rfl | rfl | rfl | rfl | rfl | rfl <;> (dsimp only;omega)) (.slice Xe xe1 xe2)
         have h9:=h9.set (a:=⟨gD,1,none⟩) hwgD (fun x hx=>by simp at hx;rcases hx with rfl | rfl | rfl | rfl | rfl | rfl | rfl | rfl <;> (dsimp only;omega)) (.slice Xk xk1 xk2)
         have h9:=h9.set (a:=⟨gD,2,none⟩) hwgD (fun x hx=>by simp at hx;rcases hx with rfl | rfl | rfl | rfl | rfl | rfl | rfl | rfl <;> (dsimp only;omega)) (.slice Xc xc1 xc2)
         have h9:=h9.set (a:=⟨gE,0,none⟩) hwgE (fun x hx=>by simp at hx;rcases hx with rfl | rfl | rfl | rfl | rfl | rfl | rfl | rfl <;> (dsimp only;omega)) (.int .i64 zx)
         exact h9.cj
        clear hK K hHeld;have hHeld:=hHeld2;clear hHeld2;refine wpAnyH_done (by kernel_rfl) ?_ _;clear hHeld
        have HMID:Hid (Mid9 v3 gD gE ⟨kx,⟨Xe,xe1,xe2⟩,⟨Xk,xk1,xk2⟩,⟨Xc,xc1,xc2⟩⟩ zx ((((v8.setCell ⟨gD,0,none⟩ (.slice Xe xe1 xe2)).setCell ⟨gD,1,none⟩ (.slice Xk xk1 xk2)).setCell ⟨gD,2,none⟩ (.slice Xc xc1 xc2)).setCell ⟨gE,0,none⟩ (.int .i64 zx))):=by
         obtain⟨W8,hW8⟩:∃ W,W=((v8.setCell ⟨gD,0,none⟩ (.slice Xe xe1 xe2)).setCell ⟨gD,1,none⟩ (.slice Xk xk1 xk2)).setCell ⟨gD,2,none⟩ (.slice Xc xc1 xc2):=⟨_,rfl⟩;obtain⟨W9,hW9⟩:∃ W,W=W8.setCell ⟨gE,0,none⟩ (.int .i64 zx):=⟨_,rfl⟩;rw[← hW8,← hW9]
         have hb:Below v3.heap.size v3 W9:=by
          rw[hW9,hW8];exact ((((HBV.out.setCell (p:=⟨gD,0,none⟩) hvgD _).setCell (p:=⟨gD,1,none⟩) hvgD _).setCell (p:=⟨gD,2,none⟩) hvgD _).setCell (p:=⟨gE,0,none⟩) hvgE _)
         refine⟨hvgD,hvgE,hne9,HN.out.keep (by rw[hW9,hW8];simp[World.setCell]) (fun b hb _=>by rw[hW9,hW8];exact (Below.heap_setCell _ ⟨gE,0,none⟩ _ b (fun e=>hb.2.2 e)).trans (cells3_at b hb.2.1)),?_,?_,?_⟩
         ·refine ((((Kept.nil_of hb).cons_of ?_).cons_of ?_).cons_of ?_).cons_of ?_ <;> (rw[hW9,hW8];go_simp)
         ·rw[hW9,hW8]
          exact (((HF.out.set _ _).set _ _).set _ _).set _ _
         ·rw[hW9,hW8]
          exact (((HFE.out.set _ _).set _ _).set _ _).set _ _
        clear z0 z1 z2 z3 m0 m1 m2 m3;go_wp2_with fail;go_meet;exact⟨gD,gE,⟨kx,⟨Xe,xe1,xe2⟩,⟨Xk,xk1,xk2⟩,⟨Xc,xc1,xc2⟩⟩,zx,rfl,rfl,HMID.out,HUP.out⟩
       ·go_simp
        clear hHeld;refine Th hK ?_ (fun hHeld=>?_)
        ·exact (HKc.out.alloc _).cj
        clear hK K;obtain⟨gD,hgD⟩:∃ g,g=v6.heap.size:=⟨_,rfl⟩;obtain⟨v7,hv7⟩:∃ W,W=v6.alloc (.cells #[.slice none 0 0,.slice none 0 0,.slice none 0 0] 42):=⟨_,rfl⟩
        have hb9:Below v6.heap.size v6 v7:=by rw[hv7];exact Dt.box_below _ _ _
        have hvgD:v3.heap.size≤gD:=by rw[hgD];exact HBV.out.size
        have hwgD:w.heap.size≤gD:=by rw[hgD];exact HKc.out.below.size
        have hnpgD:p≠gD:=by have h:=World.block_lt_of_cell? v6 _ HKc.out.c0;dsimp only at h;omega
        have hnqgD:q≠gD:=by have h:=World.block_lt_of_cell? v6 _ HKc.out.c2;dsimp only at h;omega
        have hnsgD:s≠gD:=by have h:=World.block_lt_of_cell? v6 _ HKc.out.c6;dsimp only at h;omega
        have b0:v7.cell? ⟨gD,0,none⟩=some (.slice none 0 0):=by rw[hv7,hgD];go_simp
        have b1:v7.cell? ⟨gD,1,none⟩=some (.slice none 0 0):=by rw[hv7,hgD];go_simp
        have b2:v7.cell? ⟨gD,2,none⟩=some (.slice none 0 0):=by rw[hv7,hgD];go_simp
        have hne9:gD≠gE:=by have h:=HFE.out.1;omega
        have hne8:¬gE=gD:=fun h=>hne9 h.symm;have HKc:=Lib.hid (HKc.out.later hb9);have R:=Lib.hid (RdT.later R.out hb9);have RX:=Lib.hid (RX.out.later hb9);have HKR:=Lib.hid (HKR.out.later hb9);have HFR:=Lib.hid (HFR.out.later hb9);have HFG:=Lib.hid (HFG.out.later hb9);have HBV:=Lib.hid (HBV.out.trans (hb9.mono HBV.out.size));have HY:=Lib.hid (HY.out.later hb9);have HFE:=Lib.hid (HFE.out.later hb9);have RG:=Lib.hid (RdT.later RG.out hb9);have HZ:=Lib.hid ((((Kept.nil_of HBV.out).cons_of b2).cons_of b1).cons_of b0);have HF:Hid (Free gD v7):=⟨by rw[hv7,hgD];simp,fun j=>by rw[hv7,hgD];go_simp⟩;have hltgD:gD<v7.heap.size:=HF.out.1;(try rw[← hv7]at hHeld);rw[← hv7];rw[← hgD];clear hgD hv7 hb9 b0 b1 b2;refine Tc 6 (fun K hK=>?_);go_simp;(go_at_call 48;refine (ochange_any t xp xa xs xv xA xn xc a n Ge Gk gn gm gc gd v7 HT.out HOK.out HY2.out N2.out RG.out).mono ?_)
        rintro e v8 ⟨kx,zx,Xe,xe1,xe2,Xk,xk1,xk2,Xc,xc1,xc2,rfl,how,hup,hb9⟩;have HN:Hid (NoC v8 (fun b=>v3.heap.size≤b∧b≠gD∧b≠gE) ⟨kx,⟨Xe,xe1,xe2⟩,⟨Xk,xk1,xk2⟩,⟨Xc,xc1,xc2⟩⟩):=NoC.of_own how.out (fun b hb _=>⟨Nat.le_trans HBV.out.size hb,by have h:=HF.out.1;omega,by have h:=HFE.out.1;omega⟩);have HUP:=Lib.hid hup.out;clear how hup;have HKc:=Lib.hid (HKc.out.later hb9);have R:=Lib.hid (RdT.later R.out hb9);have RX:=Lib.hid (RX.out.later hb9);have HKR:=Lib.hid (HKR.out.later hb9);have HFR:=Lib.hid (HFR.out.later hb9);have HFG:=Lib.hid (HFG.out.later hb9);have HBV:=Lib.hid (HBV.out.trans (hb9.mono HBV.out.size));have HY:=Lib.hid (HY.out.later hb9);have HFE:=Lib.hid (HFE.out.later hb9);have RG:=Lib.hid (RdT.later RG.out hb9);have HZ:=Lib.hid (HZ.out.later hb9);have HF:=Lib.hid (HF.out.later hb9);clear hb9
        obtain⟨z0,z1,z2,-⟩:=HZ.out.cj;have z3:=HY.out.c0;have m0:=HF.out.2 0;have m1:=HF.out.2 1;have m2:=HF.out.2 2;have m3:=HFE.out.2 0;clear hHeld;refine Th hK ?_ (fun hHeld=>?_)
        ·exact HKc.out.cj
        clear hK K;refine Tk 7 31 ?_;refine Tk 8 39 ?_;refine Tk 9 40 ?_;refine Tc 12 (fun K hK=>?_);go_simp;refine Th hK ?_ (fun hHeld2=>?_)
        ·(try dsimp only)
         have h9:=HKc.out.st3 (g:=gD) hwgD (fun x hx=>by simp at hx;rcases hx with rfl | rfl | rfl | rfl | rfl | rfl | rfl | rfl <;> (dsimp only;omega)) (.slice Xe xe1 xe2) (.slice Xk xk1 xk2) (.slice Xc xc1 xc2)
         exact h9.cj
        clear hK K hHeld;have hHeld:=hHeld2;clear hHeld2;refine Tc 13 (fun K hK=>?_);go_simp;refine Th hK ?_ (fun hHeld2=>?_)
        ·(try dsimp only)
         have h9:=HKc.out
         have h9:=h9.set (a:=⟨gD,0,none⟩) hwgD (fun x hx=>by simp at hx;rcases hx with rfl | rfl | rfl | rfl | rfl | rfl | rfl | rfl <;> (dsimp only;omega)) (.slice Xe xe1 xe2)
         have h9:=h9.set (a:=⟨gD,1,none⟩) hwgD (fun x hx=>by simp at hx;rcases hx with rfl | rfl | rfl | rfl | rfl | rfl | rfl | rfl <;> (dsimp only;omega)) (.slice Xk xk1 xk2)
         have h9:=h9.set (a:=⟨gD,2,none⟩) hwgD (fun x hx=>by simp at hx;rcases hx with rfl | rfl | rfl | rfl | rfl | rfl | rfl | rfl <;> (dsimp only;omega)) (.slice Xc xc1 xc2)
         have h9:=h9.set (a:=⟨gE,0,none⟩) hwgE (fun x hx=>by simp at hx;rcases hx with rfl | rfl | rfl | rfl | rfl | rfl | rfl | rfl <;> (dsimp only;omega)) (.int .i64 zx)
         exact h9.cj
        clear hK K hHeld;have hHeld:=hHeld2;clear hHeld2;refine wpAnyH_done (by kernel_rfl) ?_ _;clear hHeld
        have HMID:Hid (Mid9 v3 gD gE ⟨kx,⟨Xe,xe1,xe2⟩,⟨Xk,xk1,xk2⟩,⟨Xc,xc1,xc2⟩⟩ zx ((((v8.setCell ⟨gD,0,none⟩ (.slice Xe xe1 xe2)).setCell ⟨gD,1,none⟩ (.slice Xk xk1 xk2)).setCell ⟨gD,2,none⟩ (.slice Xc xc1 xc2)).setCell ⟨gE,0,none⟩ (.int .i64 zx))):=by
         obtain⟨W8,hW8⟩:∃ W,W=((v8.setCell ⟨gD,0,none⟩ (.slice Xe xe1 xe2)).setCell ⟨gD,1,none⟩ (.slice Xk xk1 xk2)).setCell ⟨gD,2,none⟩ (.slice Xc xc1 xc2):=⟨_,rfl⟩;obtain⟨W9,hW9⟩:∃ W,W=W8.setCell ⟨gE,0,none⟩ (.int .i64 zx):=⟨_,rfl⟩;rw[← hW8,← hW9]
         have hb:Below v3.heap.size v3 W9:=by
          rw[hW9,hW8];exact ((((HBV.out.setCell (p:=⟨gD,0,none⟩) hvgD _).setCell (p:=⟨gD,1,none⟩) hvgD _).setCell (p:=⟨gD,2,none⟩) hvgD _).setCell (p:=⟨gE,0,none⟩) hvgE _)
         refine⟨hvgD,hvgE,hne9,HN.out.keep (by rw[hW9,hW8];simp[World.setCell]) (fun b hb _=>by rw[hW9,hW8];exact (Below.heap_setCell _ ⟨gE,0,none⟩ _ b (fun e=>hb.2.2 e)).trans (cells3_at b hb.2.1)),?_,?_,?_⟩
         ·refine ((((Kept.nil_of hb).cons_of ?_).cons_of ?_).cons_of ?_).cons_of ?_ <;> (rw[hW9,hW8];go_simp)
         ·rw[hW9,hW8]
          exact (((HF.out.set _ _).set _ _).set _ _).set _ _
         ·rw[hW9,hW8]
          exact (((HFE.out.set _ _).set _ _).set _ _).set _ _
        clear z0 z1 z2 z3 m0 m1 m2 m3;go_wp2_with fail;go_meet;exact⟨gD,gE,⟨kx,⟨Xe,xe1,xe2⟩,⟨Xk,xk1,xk2⟩,⟨Xc,xc1,xc2⟩⟩,zx,rfl,rfl,HMID.out,HUP.out⟩
      ·go_simp
       clear hHeld;refine Th hK ?_ (fun hHeld=>?_)
       ·exact (HKc.out.alloc _).cj
       clear hK K;obtain⟨gD,hgD⟩:∃ g,g=v5.heap.size:=⟨_,rfl⟩;obtain⟨v6,hv6⟩:∃ W,W=v5.alloc (.cells #[.slice none 0 0,.slice none 0 0,.slice none 0 0] 42):=⟨_,rfl⟩
       have hb9:Below v5.heap.size v5 v6:=by rw[hv6];exact Dt.box_below _ _ _
       have hvgD:v3.heap.size≤gD:=by rw[hgD];exact HBV.out.size
       have hwgD:w.heap.size≤gD:=by rw[hgD];exact HKc.out.below.size
       have hnpgD:p≠gD:=by have h:=World.block_lt_of_cell? v5 _ HKc.out.c0;dsimp only at h;omega
       have hnqgD:q≠gD:=by have h:=World.block_lt_of_cell? v5 _ HKc.out.c2;dsimp only at h;omega
       have hnsgD:s≠gD:=by have h:=World.block_lt_of_cell? v5 _ HKc.out.c6;dsimp only at h;omega
       have b0:v6.cell? ⟨gD,0,none⟩=some (.slice none 0 0):=by rw[hv6,hgD];go_simp
       have b1:v6.cell? ⟨gD,1,none⟩=some (.slice none 0 0):=by rw[hv6,hgD];go_simp
       have b2:v6.cell? ⟨gD,2,none⟩=some (.slice none 0 0):=by rw[hv6,hgD];go_simp
       have hne9:gD≠gE:=by have h:=HFE.out.1;omega
       have hne8:¬gE=gD:=fun h=>hne9 h.symm;have HKc:=Lib.hid (HKc.out.later hb9);have R:=Lib.hid (RdT.later R.out hb9);have RX:=Lib.hid (RX.out.later hb9);have HKR:=Lib.hid (HKR.out.later hb9);have HFR:=Lib.hid (HFR.out.later hb9);have HFG:=Lib.hid (HFG.out.later hb9);have HBV:=Lib.hid (HBV.out.trans (hb9.mono HBV.out.size));have HY:=Lib.hid (HY.out.later hb9);have HFE:=Lib.hid (HFE.out.later hb9);have HZ:=Lib.hid ((((Kept.nil_of HBV.out).cons_of b2).cons_of b1).cons_of b0);have HF:Hid (Free gD v6):=⟨by rw[hv6,hgD];simp,fun j=>by rw[hv6,hgD];go_simp⟩;have hltgD:gD<v6.heap.size:=HF.out.1;(try rw[← hv6]at hHeld);rw[← hv6];rw[← hgD];clear hgD hv6 hb9 b0 b1 b2;refine Tc 3 (fun K hK=>?_);go_simp;(go_at_call 49;refine (get_any t Ae Ak ne nk ce ck v6 xp xA xn xc HLX.out (by have:=N.out;omega) RX.out N.out.2.2 (by have:=N.out;omega) R.out).mono ?_)
       rintro e v7 ⟨Ge,gn,gc,Gk,gm,gd,rfl,hot,hb9⟩;rw[if_pos HTB.out]at hot;have RG:Hid (RdT v7 v7.heap.size (getT t xp) ⟨Ge,gn,gc⟩ ⟨Gk,gm,gd⟩):=hot.rd;clear hot;have HKc:=Lib.hid (HKc.out.later hb9);have R:=Lib.hid (RdT.later R.out hb9);have RX:=Lib.hid (RX.out.later hb9);have HKR:=Lib.hid (HKR.out.later hb9);have HFR:=Lib.hid (HFR.out.later hb9);have HFG:=Lib.hid (HFG.out.later hb9);have HBV:=Lib.hid (HBV.out.trans (hb9.mono HBV.out.size));have HY:=Lib.hid (HY.out.later hb9);have HFE:=Lib.hid (HFE.out.later hb9);have HZ:=Lib.hid (HZ.out.later hb9);have HF:=Lib.hid (HF.out.later hb9);clear hb9;clear hHeld;refine Th hK ?_ (fun hHeld=>?_)
       ·exact HKc.out.cj
       clear hK K;refine Tc 6 (fun K hK=>?_);go_simp;(go_at_call 48;refine (ochange_any t xp xa xs xv xA xn xc a n Ge Gk gn gm gc gd v7 HT.out HOK.out HY2.out N2.out RG.out).mono ?_);rintro e v8 ⟨kx,zx,Xe,xe1,xe2,Xk,xk1,xk2,Xc,xc1,xc2,rfl,how,hup,hb9⟩;have HN:Hid (NoC v8 (fun b=>v3.heap.size≤b∧b≠gD∧b≠gE) ⟨kx,⟨Xe,xe1,xe2⟩,⟨Xk,xk1,xk2⟩,⟨Xc,xc1,xc2⟩⟩):=NoC.of_own how.out (fun b hb _=>⟨Nat.le_trans HBV.out.size hb,by have h:=HF.out.1;omega,by have h:=HFE.out.1;omega⟩);have HUP:=Lib.hid hup.out;clear how hup;have HKc:=Lib.hid (HKc.out.later hb9);have R:=Lib.hid (RdT.later R.out hb9);have RX:=Lib.hid (RX.out.later hb9);have HKR:=Lib.hid (HKR.out.later hb9);have HFR:=Lib.hid (HFR.out.later hb9);have HFG:=Lib.hid (HFG.out.later hb9);have HBV:=Lib.hid (HBV.out.trans (hb9.mono HBV.out.size));have HY:=Lib.hid (HY.out.later hb9)
       have HFE:=Lib.hid (HFE.out.later hb9);have HZ:=Lib.hid (HZ.out.later hb9);have HF:=Lib.hid (HF.out.later hb9);have RG:=Lib.hid (RdT.later RG.out hb9);clear hb9;obtain⟨z0,z1,z2,-⟩:=HZ.out.cj;have z3:=HY.out.c0;have m0:=HF.out.2 0;have m1:=HF.out.2 1;have m2:=HF.out.2 2;have m3:=HFE.out.2 0;clear hHeld;refine Th hK ?_ (fun hHeld=>?_)
       ·exact HKc.out.cj
       clear hK K;refine Tk 7 31 ?_;refine Tk 8 39 ?_;refine Tk 9 40 ?_;refine Tc 12 (fun K hK=>?_);go_simp;refine Th hK ?_ (fun hHeld2=>?_)
       ·(try dsimp only)
        have h9:=HKc.out.st3 (g:=gD) hwgD (fun x hx=>by simp at hx;rcases hx with rfl | rfl | rfl | rfl | rfl | rfl | rfl | rfl <;> (dsimp only;omega)) (.slice Xe xe1 xe2) (.slice Xk xk1 xk2) (.slice Xc xc1 xc2)
        exact h9.cj
       clear hK K hHeld;have hHeld:=hHeld2;clear hHeld2;refine Tc 13 (fun K hK=>?_);go_simp;refine Th hK ?_ (fun hHeld2=>?_)
       ·(try dsimp only)
        have h9:=HKc.out
        have h9:=h9.set (a:=⟨gD,0,none⟩) hwgD (fun x hx=>by simp at hx;rcases hx with rfl | rfl | rfl | rfl | rfl | rfl | rfl | rfl <;> (dsimp only;omega)) (.slice Xe xe1 xe2)
        have h9:=h9.set (a:=⟨gD,1,none⟩) hwgD (fun x hx=>by simp at hx;rcases hx with rfl | rfl | rfl | rfl | rfl | rfl | rfl | rfl <;> (dsimp only;omega)) (.slice Xk xk1 xk2)
        have h9:=h9.set (a:=⟨gD,2,none⟩) hwgD (fun x hx=>by simp at hx;rcases hx with rfl | rfl | rfl | rfl | rfl | rfl | rfl | rfl <;> (dsimp only;omega)) (.slice Xc xc1 xc2)
        have h9:=h9.set (a:=⟨gE,0,none⟩) hwgE (fun x hx=>by simp at hx;rcases hx with rfl | rfl | rfl | rfl | rfl | rfl | rfl | rfl <;> (dsimp only;omega)) (.int .i64 zx)
        exact h9.cj
       clear hK K hHeld;have hHeld:=hHeld2;clear hHeld2;refine wpAnyH_done (by kernel_rfl) ?_ _;clear hHeld
       have HMID:Hid (Mid9 v3 gD gE ⟨kx,⟨Xe,xe1,xe2⟩,⟨Xk,xk1,xk2⟩,⟨Xc,xc1,xc2⟩⟩ zx ((((v8.setCell ⟨gD,0,none⟩ (.slice Xe xe1 xe2)).setCell ⟨gD,1,none⟩ (.slice Xk xk1 xk2)).setCell ⟨gD,2,none⟩ (.slice Xc xc1 xc2)).setCell ⟨gE,0,none⟩ (.int .i64 zx))):=by
        obtain⟨W8,hW8⟩:∃ W,W=((v8.setCell ⟨gD,0,none⟩ (.slice Xe xe1 xe2)).setCell ⟨gD,1,none⟩ (.slice Xk xk1 xk2)).setCell ⟨gD,2,none⟩ (.slice Xc xc1 xc2):=⟨_,rfl⟩;obtain⟨W9,hW9⟩:∃ W,W=W8.setCell ⟨gE,0,none⟩ (.int .i64 zx):=⟨_,rfl⟩;rw[← hW8,← hW9]
        have hb:Below v3.heap.size v3 W9:=by
         rw[hW9,hW8];exact ((((HBV.out.setCell (p:=⟨gD,0,none⟩) hvgD _).setCell (p:=⟨gD,1,none⟩) hvgD _).setCell (p:=⟨gD,2,none⟩) hvgD _).setCell (p:=⟨gE,0,none⟩) hvgE _)
        refine⟨hvgD,hvgE,hne9,HN.out.keep (by rw[hW9,hW8];simp[World.setCell]) (fun b hb _=>by rw[hW9,hW8];exact (Below.heap_setCell _ ⟨gE,0,none⟩ _ b (fun e=>hb.2.2 e)).trans (cells3_at b hb.2.1)),?_,?_,?_⟩
        ·refine ((((Kept.nil_of hb).cons_of ?_).cons_of ?_).cons_of ?_).cons_of ?_ <;> (rw[hW9,hW8];go_simp)
        ·rw[hW9,hW8]
         exact (((HF.out.set _ _).set _ _).set _ _).set _ _
        ·rw[hW9,hW8]
         exact (((HFE.out.set _ _).set _ _).set _ _).set _ _
       clear z0 z1 z2 z3 m0 m1 m2 m3;go_wp2_with fail;go_meet;exact⟨gD,gE,⟨kx,⟨Xe,xe1,xe2⟩,⟨Xk,xk1,xk2⟩,⟨Xc,xc1,xc2⟩⟩,zx,rfl,rfl,HMID.out,HUP.out⟩
    case rest=>
     obtain⟨wc9,hwc9⟩:∃ W,W=wc:=⟨_,rfl⟩;subst hwc9;obtain⟨gD,gE,⟨kx,⟨Xe,xe1,xe2⟩,⟨Xk,xk1,xk2⟩,⟨Xc,xc1,xc2⟩⟩,zx,rfl,rfl,hmid,hup⟩:=hcut;obtain⟨hvD,hvE,hDE,hnc,hkd,hfD,hfE⟩:=hmid.out;have hb9:=hkd.below;have HKc:=Lib.hid (HKc.out.later hb9);have R:=Lib.hid (RdT.later R.out hb9);have RX:=Lib.hid (RX.out.later hb9);have HKR:=Lib.hid (HKR.out.later hb9);have HFR:=Lib.hid (HFR.out.later hb9);have HFG:=Lib.hid (HFG.out.later hb9);clear hb9;have HUP:=Lib.hid hup.out;have HNO:=Lib.hid hnc;have HKD:=Lib.hid hkd;have HFD:=Lib.hid hfD;have HFE:=Lib.hid hfE;have hDE2:¬gE=gD:=fun h=>hDE h.symm;have hrs:r<v3.heap.size∧g<v3.heap.size:=⟨HFR0.out.1,HFG0.out.1⟩;clear hup hmid hnc hkd hfD hfE;obtain⟨c0,c1,c2,c3,c4,c5,c6,c7,-⟩:=HKc.out.cj;go_wp2_with fail;refine (backward_any xA xn xc wc9).mono ?_
     rintro e w7 ⟨rfl,rfl⟩;obtain⟨gB,hgB⟩:∃ g,g=wc9.heap.size:=⟨_,rfl⟩;obtain⟨W8,hW8⟩:∃ W,W=wc9.alloc (.cells #[.slice xA xn xc] 25):=⟨_,rfl⟩
     have hb9:Below wc9.heap.size wc9 W8:=by rw[hW8];exact Dt.box_below _ _ _
     have hs8:W8.heap.size=gB+1:=by rw[hW8,hgB];simp
     have iB:W8.cell? ⟨gB,0,none⟩=some (.slice xA xn xc):=by rw[hW8,hgB];go_simp
     have hord:p<gD∧q<gD∧r<gD∧g<gD∧gD<gB∧gE<gB∧p<gE∧q<gE∧r<gE∧g<gE∧w.heap.size≤gD∧w.heap.size≤gE:=by
      have h1:=HFD.out.1;have h2:=HFE.out.1;have h3:=hrs.1;have h4:=hrs.2;omega
     have HNO:=Lib.hid (NoC.later HNO.out hb9);have HKD:=Lib.hid (HKD.out.later hb9);have HFD:=Lib.hid (HFD.out.later hb9);have HFE:=Lib.hid (HFE.out.later hb9);have HKc:=Lib.hid (HKc.out.later hb9);have R:=Lib.hid (RdT.later R.out hb9);have RX:=Lib.hid (RX.out.later hb9);have HKR:=Lib.hid (HKR.out.later hb9);have HFR:=Lib.hid (HFR.out.later hb9);have HFG:=Lib.hid (HFG.out.later hb9);clear hb9;clear c0 c1 c2 c3 c4 c5 c6 c7;rw[← hgB,← hW8];clear hgB hW8;go_wp2_with fail;have HB8:=HKc.out.below
     have I0:ApS w [(⟨p,0,none⟩,.slice Ae ne ce),(⟨p,1,none⟩,.slice Ak nk ck),(⟨q,0,none⟩,.slice xA xn xc),(⟨gB,0,none⟩,.slice xA xn xc)] r g gD gE (UpU t ⟨xp,xa,xs,xv⟩ (a,n) xn []) W8:=by
      have h1:=HUP.out;have h2:xp.length=xn:=HLX.out;refine⟨⟨kx,⟨Xe,xe1,xe2⟩,⟨Xk,xk1,xk2⟩,⟨Xc,xc1,xc2⟩⟩,zx,⟨⟨?_,h1.len⟩,fun _=>?_⟩,HNO.out.mono fun b hb _=>?_,?_,HFR.out,HFG.out,HFD.out,HFE.out⟩
      ·have h3:=h1.nodes HOK.out
       simpa using h3
      ·show UpIs t ⟨xp,xa,xs,xv⟩ (a,n) (xn-0) kx zx
       rw[Nat.sub_zero,← h2];exact h1
      ·obtain⟨h3,h4,h5⟩:=hb
       exact⟨by omega,by omega,by omega,h4,h5⟩
      ·exact (((((((((((((Kept.nil_of HB8).cons_of iB).cons_of HKc.out.c2).cons_of HKc.out.c1).cons_of HKc.out.c0).cons_of HKR.out.c3).cons_of HKR.out.c2).cons_of HKR.out.c1).cons_of HKR.out.c0).cons_of HKD.out.c3).cons_of HKD.out.c2).cons_of HKD.out.c1).cons_of HKD.out.c0)
     have hTX:TextsAt w.heap.size W8 xA xn (fun j=>xp[j]?.getD ByteArray.empty):=(TextsAt.of_rd HRX0.out).below HB8;have hx3:=HPN.out;have hsz8:w.heap.size≤W8.heap.size:=HB8.size;have HCUT:Hid (∀ (i:Nat) (W:World),i≤xn→(Instr.slice 25 (.slice xA xn xc) none (some (.int .i64 (i:Nat))) none).run Tryz.prog W = .ok (.slice xA i xc) W):=fun i W hi=>cut_strs xA xn xc i (Nat.le_trans hi HRX0.out.cap) W;have HR0:=Lib.hid (RdT.more HB8.size _ (RdT.below HRT0.out HB8));have HRX8:=Lib.hid ((HRX0.out.below HB8).more HB8.size);clear HUP HNO HKD HFD HFE HKc HKR HFR HFG R RX;refine (wpIn_wide (n:=6)).1 ?_
     refine' wpIn_rangeFunc_ownG (F:=Fence.wide) (n:=6) rfl (by omega) (gf:=104) (lb:=#[.pointer (some ⟨gB,0,none⟩)]) rfl trivial (enters_of Tryz.func104 (by kernel_rfl) rfl)
      (backwardP_stops Fence.wide 5 trivial rfl (by omega) gB w.heap.size xn xc xA (fun j=>xp[j]?.getD ByteArray.empty) (by omega) W8 (by omega) (by omega) iB hTX) kpB_t (kpB_b (by omega) (by omega)) (Below.refl _ _) (fun _=>rfl)
      (fun pre W=>ApS w [(⟨p,0,none⟩,.slice Ae ne ce),(⟨p,1,none⟩,.slice Ak nk ck),(⟨q,0,none⟩,.slice xA xn xc),(⟨gB,0,none⟩,.slice xA xn xc)] r g gD gE (UpU t ⟨xp,xa,xs,xv⟩ (a,n) xn pre) W∧Below w.heap.size w W)
      (fun c pre W=>∃ z:Int,c = .ret∧¬z=0∧(DownTo xn pre→z=er)∧Kept [(⟨r,0,none⟩,.slice none 0 0),(⟨r,1,none⟩,.slice none 0 0),(⟨r,2,none⟩,.slice none 0 0),(⟨g,0,none⟩,.int .i64 z)] w W)
      (fun pre W W' row hs hg hr=>by
       have hb':=ownFrom_below (β:=Unit) (n₀:=w.heap.size) (w₀:=w) (Nat.le_refl _) hsz8 () W W' row hs.2 hg hr
       exact⟨ApS.grown hs.1 hg (fun r' e=>(hr r' e).2) hb',hb'⟩)
      (fun c pre W W' row hs hg hr=>by
       obtain⟨z,h1,h2,h3,h4⟩:=hs;have hb':=ownFrom_below (β:=Unit) (n₀:=w.heap.size) (w₀:=w) (Nat.le_refl _) hsz8 () W W' row h4.below hg hr
       exact⟨z,h1,h2,h3,Kept.grown h4 hg (fun r' e=>(hr r' e).2) hb'⟩)
      ⟨I0,HB8⟩ _ ?assign ?body ?done ?stop
     case assign=>
      intro l' x W K hK
      gi_wp2
      exact hK
     case body=>
      rintro l' pre ⟨i,hi⟩ V ⟨⟨⟨kd,⟨De,de1,de2⟩,⟨Dk,dk1,dk2⟩,⟨Dc,dc1,dc2⟩⟩,zd,hU,hN,hK,hf1,hf2,hf3,hf4⟩,hB⟩ hlt
      have hxl:i<xp.length:=by rw[HLX.out];exact hi
      obtain⟨key,hkey⟩:∃ k,k=xp[i]:=⟨_,rfl⟩
      have hke:xp[i]?.getD ByteArray.empty=key:=by rw[List.getElem?_eq_getElem hxl,hkey];rfl
      simp only[hke];have HKA:Hid (Kept [(⟨gD,0,none⟩,.slice De de1 de2),(⟨gD,1,none⟩,.slice Dk dk1 dk2),(⟨gD,2,none⟩,.slice Dc dc1 dc2),(⟨gE,0,none⟩,.int .i64 zd),(⟨r,0,none⟩,.slice none 0 0),(⟨r,1,none⟩,.slice none 0 0),(⟨r,2,none⟩,.slice none 0 0),(⟨g,0,none⟩,.int .i64 0),(⟨p,0,none⟩,.slice Ae ne ce),(⟨p,1,none⟩,.slice Ak nk ck),(⟨q,0,none⟩,.slice xA xn xc),(⟨gB,0,none⟩,.slice xA xn xc)] w V):=hK;have HND:=Lib.hid hN;have HU:=Lib.hid hU;have HFR:=Lib.hid hf1;have HFG:=Lib.hid hf2;have HFD:=Lib.hid hf3;have HFE:=Lib.hid hf4;have HKc:Hid (Kept [(⟨r,0,none⟩,.slice none 0 0),(⟨r,1,none⟩,.slice none 0 0),(⟨r,2,none⟩,.slice none 0 0),(⟨g,0,none⟩,.int .i64 0),(⟨p,0,none⟩,.slice Ae ne ce),(⟨p,1,none⟩,.slice Ak nk ck),(⟨q,0,none⟩,.slice xA xn xc),(⟨gB,0,none⟩,.slice xA xn xc)] w V):=HKA.out.tail.tail.tail.tail
      have HKY:=Lib.hid hkey;have HB:=Lib.hid hB;have HLT:=Lib.hid hlt;have HI:=Lib.hid hi;clear hK hN hU hf1 hf2 hf3 hf4 hke hkey hB I0 hTX hlt iB
      by_cases hz:zd=0
      ·subst hz
       have e0:=HKA.out.c3
       gi_wp2
       clear e0
       have HBD:Hid (nodes kd.1≤8∧dc1≤964):=by
        have h1:=HU.out.1;have h2:=HND.out.len;have h3:=HLT.out;have h4:=N2.out;dsimp only at h2;unfold Hid;omega
       obtain⟨x,hx⟩:∃ x,x=getT t (xp.take i):=⟨_,rfl⟩;obtain⟨ky,hky⟩:∃ k,updK x key kd=k:=⟨_,rfl⟩;obtain⟨zy,hzy⟩:∃ z,updE x key kd=z:=⟨_,rfl⟩
       have HUY:Hid (UpU t ⟨xp,xa,xs,xv⟩ (a,n) xn (pre++[⟨i,hi⟩]) ky zy):=by
        have h:=UpU.step (x:=⟨i,hi⟩) HT.out HOK.out HD.out HLX.out HU.out hxl HLT.out;dsimp only at h;rw[← hx,← HKY.out,hky,hzy]at h;exact h
       have HX:=Lib.hid hx;have HKQ:=Lib.hid hky;have HZQ:=Lib.hid hzy
       have HNX:Hid (nodes x≤240):=by unfold Hid;rw[hx];exact Nat.le_trans (nodes_getT t _) N2.out
       have hcut9:=fun W=>HCUT.out i W (Nat.le_of_lt hi);have HRV:=Lib.hid (RdT.more HB.out.size _ (RdT.below HRT0.out HB.out));have HRXV:=Lib.hid ((HRX0.out.below HB.out).more HB.out.size)
       have HLC:Hid ((xp.take i).length=i):=by unfold Hid;rw[List.length_take];omega
       clear hx hky hzy;have HKV:Hid (V.cell? ⟨gB,0,none⟩=some (.slice xA xn xc)):=HKc.out.c7;refine Rnd.held_round (S:=Conj _) (by kernel_rfl) (by kernel_rfl) (fun ⟨_,_,h⟩=>h) HKc.out.drew.cj (fun hHeld=>?_);obtain⟨v1,hv1⟩:∃ v,v=V.drew:=⟨_,rfl⟩
       have hb9:Below V.heap.size V v1:=by rw[hv1];exact (Below.refl _ _).drew
       have HKc:=Lib.hid (HKc.out.later hb9);have HKA:=Lib.hid (HKA.out.later hb9);have HND:=Lib.hid (HND.out.later hb9);have HFR:=Lib.hid (HFR.out.later hb9);have HFG:=Lib.hid (HFG.out.later hb9);have HFD:=Lib.hid (HFD.out.later hb9);have HFE:=Lib.hid (HFE.out.later hb9);have HRV:=Lib.hid (RdT.later HRV.out hb9);have HRXV:=Lib.hid (HRXV.out.later hb9);have HBV:=Lib.hid hb9;clear hb9;rw[← hv1]at hHeld ⊢;clear hv1;obtain⟨d0,d1,d2,-⟩:=HKA.out.cj;refine Tk 0 51 ?_;refine Tk 1 52 ?_;refine Tk 2 53 ?_;refine Tk 3 54 ?_;refine Tk 4 55 ?_;refine Tk 6 57 ?_;refine wpAnyH_ready (rs:=[5,7]) (by kernel_rfl) (by simp) ?_;refine AllReadyH.cons (o:=⟨some 56,_,_,_,_,_⟩) rfl (fun K hK=>?_) (AllReadyH.cons (o:=⟨some 58,_,_,_,_,_⟩) rfl (fun K hK=>?_) (AllReadyH.nil))
       ·go_simp
        clear d0 d1 d2;(go_at_call 49;refine (get_any t Ae Ak ne nk ce ck v1 (xp.take i) xA i xc HLC.out (by omega) (rd_cut HRXV.out (Nat.le_of_lt HI.out)) N.out.2.2 (by have:=N.out;omega) HRV.out).mono ?_);rintro e v2 ⟨Ge,gn,gc,Gk,gm,gd,rfl,hot,hb9⟩;rw[if_pos HTB.out,← HX.out]at hot;have RG:Hid (RdT v2 v2.heap.size x ⟨Ge,gn,gc⟩ ⟨Gk,gm,gd⟩):=hot.rd;clear hot;have HKc:=Lib.hid (HKc.out.later hb9);have HKA:=Lib.hid (HKA.out.later hb9);have HND:=Lib.hid (HND.out.later hb9);have HFR:=Lib.hid (HFR.out.later hb9);have HFG:=Lib.hid (HFG.out.later hb9);have HFD:=Lib.hid (HFD.out.later hb9);have HFE:=Lib.hid (HFE.out.later hb9);have HRV:=Lib.hid (RdT.later HRV.out hb9);have HRXV:=Lib.hid (HRXV.out.later hb9);have HBV:=Lib.hid (HBV.out.trans (hb9.mono HBV.out.size));clear hb9;obtain⟨d0,d1,d2,-⟩:=HKA.out.cj;clear hHeld
        refine Th hK ?_ (fun hHeld=>?_)
        ·exact HKc.out.cj
        clear hK K;refine Tc 7 (fun K hK=>?_);go_simp;clear hHeld;refine Th hK ?_ (fun hHeld=>?_)
        ·exact HKc.out.cj
        clear hK K;clear d0 d1 d2;refine Tc 8 (fun K hK=>?_);go_simp;(go_at_call 51;refine (update_any x Ge Gk gn gm gc gd key kd De Dk Dc de1 de2 dk1 dk2 dc1 dc2 v2 (LenT.few (by have:=HNX.out;omega)) (by have:=HNX.out;omega) RG.out (LenT.few (by have:=HBD.out;omega)) (by have:=HBD.out;omega) (by have:=HBD.out;omega) HND.out.rd).mono ?_);rw[HKQ.out,HZQ.out];rintro e v3 ⟨Ye,ye1,ye2,Yk,yk1,yk2,Yc,yc1,yc2,rfl,how,hb9⟩;have HNY:Hid (NoC v3 (fun b=>v2.heap.size≤b) ⟨ky,⟨Ye,ye1,ye2⟩,⟨Yk,yk1,yk2⟩,⟨Yc,yc1,yc2⟩⟩):=NoC.of_own how (fun b hb _=>hb);have HVV:Hid (w.heap.size≤v2.heap.size∧r<v2.heap.size∧g<v2.heap.size∧gD<v2.heap.size∧gE<v2.heap.size):=⟨HKc.out.below.size,HFR.out.1,HFG.out.1,HFD.out.1,HFE.out.1⟩;clear how;have HKc:=Lib.hid (HKc.out.later hb9);have HKA:=Lib.hid (HKA.out.later hb9)
        have HND:=Lib.hid (HND.out.later hb9);have HFR:=Lib.hid (HFR.out.later hb9);have HFG:=Lib.hid (HFG.out.later hb9);have HFD:=Lib.hid (HFD.out.later hb9);have HFE:=Lib.hid (HFE.out.later hb9);have HRV:=Lib.hid (RdT.later HRV.out hb9);have HRXV:=Lib.hid (HRXV.out.later hb9);have HBV:=Lib.hid (HBV.out.trans (hb9.mono HBV.out.size));have RG:=Lib.hid (RdT.later RG.out hb9);clear hb9;obtain⟨z0,z1,z2,z3,-⟩:=HKA.out.cj;have m0:=HFD.out.2 0;have m1:=HFD.out.2 1;have m2:=HFD.out.2 2;have m3:=HFE.out.2 0;clear hHeld;refine Th hK ?_ (fun hHeld=>?_)
        ·exact HKc.out.cj
        clear hK K;refine Tk 9 50 ?_;refine Tk 10 60 ?_;refine Tk 11 61 ?_;refine Tc 12 (fun K hK=>?_);go_simp;refine Th hK ?_ (fun hHeld2=>?_)
        ·(try dsimp only)
         have h9:=HKc.out
         have h9:=h9.set (a:=⟨gD,0,none⟩) hord.2.2.2.2.2.2.2.2.2.2.1 (fun x hx=>by simp at hx;rcases hx with rfl | rfl | rfl | rfl | rfl | rfl | rfl | rfl <;> (dsimp only;omega)) (.slice Ye ye1 ye2)
         have h9:=h9.set (a:=⟨gD,1,none⟩) hord.2.2.2.2.2.2.2.2.2.2.1 (fun x hx=>by simp at hx;rcases hx with rfl | rfl | rfl | rfl | rfl | rfl | rfl | rfl <;> (dsimp only;omega)) (.slice Yk yk1 yk2)
         have h9:=h9.set (a:=⟨gD,2,none⟩) hord.2.2.2.2.2.2.2.2.2.2.1 (fun x hx=>by simp at hx;rcases hx with rfl | rfl | rfl | rfl | rfl | rfl | rfl | rfl <;> (dsimp only;omega)) (.slice Yc yc1 yc2)
         exact h9.cj
        clear hK K hHeld;have hHeld:=hHeld2;clear hHeld2;refine Tc 13 (fun K hK=>?_);go_simp;refine Th hK ?_ (fun hHeld2=>?_)
        ·(try dsimp only)
         have h9:=HKc.out
         have h9:=h9.set (a:=⟨gD,0,none⟩) hord.2.2.2.2.2.2.2.2.2.2.1 (fun x hx=>by simp at hx;rcases hx with rfl | rfl | rfl | rfl | rfl | rfl | rfl | rfl <;> (dsimp only;omega)) (.slice Ye ye1 ye2)
         have h9:=h9.set (a:=⟨gD,1,none⟩) hord.2.2.2.2.2.2.2.2.2.2.1 (fun x hx=>by simp at hx;rcases hx with rfl | rfl | rfl | rfl | rfl | rfl | rfl | rfl <;> (dsimp only;omega)) (.slice Yk yk1 yk2)
         have h9:=h9.set (a:=⟨gD,2,none⟩) hord.2.2.2.2.2.2.2.2.2.2.1 (fun x hx=>by simp at hx;rcases hx with rfl | rfl | rfl | rfl | rfl | rfl | rfl | rfl <;> (dsimp only;omega)) (.slice Yc yc1 yc2)
         have h9:=h9.set (a:=⟨gE,0,none⟩) hord.2.2.2.2.2.2.2.2.2.2.2 (fun x hx=>by simp at hx;rcases hx with rfl | rfl | rfl | rfl | rfl | rfl | rfl | rfl <;> (dsimp only;omega)) (.int .i64 zy)
         exact h9.cj
        clear hK K hHeld;have hHeld:=hHeld2;clear hHeld2;refine wpAnyH_done (by kernel_rfl) ?_ _;clear hHeld;obtain⟨W7,hW7⟩:∃ W,W=(((v3.setCell ⟨gD,0,none⟩ (.slice Ye ye1 ye2)).setCell ⟨gD,1,none⟩ (.slice Yk yk1 yk2)).setCell ⟨gD,2,none⟩ (.slice Yc yc1 yc2)):=⟨_,rfl⟩;obtain⟨W9,hW9⟩:∃ W,W=W7.setCell ⟨gE,0,none⟩ (.int .i64 zy):=⟨_,rfl⟩;rw[← hW7,← hW9]
        have HKF:Hid (KeepsFrom W8.heap.size V W9):=by
         unfold Hid;rw[hW9,hW7];exact ((((keepsFrom_of HBV.out).trans (keepsFrom_set _ _ _)).trans (keepsFrom_set _ _ _)).trans (keepsFrom_set _ _ _)).trans (keepsFrom_set _ _ _)
        have HBL:Hid (Below w.heap.size V W9):=by
         unfold Hid;rw[hW9,hW7];exact ((((HBV.out.mono HB.out.size).setCell (p:=⟨gD,0,none⟩) hord.2.2.2.2.2.2.2.2.2.2.1 _).setCell (p:=⟨gD,1,none⟩) hord.2.2.2.2.2.2.2.2.2.2.1 _).setCell (p:=⟨gD,2,none⟩) hord.2.2.2.2.2.2.2.2.2.2.1 _).setCell (p:=⟨gE,0,none⟩) hord.2.2.2.2.2.2.2.2.2.2.2 _
        have HBW:Hid (Below w.heap.size w W9):=HB.out.trans HBL.out
        have HKX:Hid (Kept [(⟨r,0,none⟩,.slice none 0 0),(⟨r,1,none⟩,.slice none 0 0),(⟨r,2,none⟩,.slice none 0 0),(⟨g,0,none⟩,.int .i64 0),(⟨p,0,none⟩,.slice Ae ne ce),(⟨p,1,none⟩,.slice Ak nk ck),(⟨q,0,none⟩,.slice xA xn xc),(⟨gB,0,none⟩,.slice xA xn xc)] w W9):=by
         unfold Hid;rw[hW9,hW7];(try dsimp only);have h9:=HKc.out
         have h9:=h9.set (a:=⟨gD,0,none⟩) hord.2.2.2.2.2.2.2.2.2.2.1 (fun x hx=>by simp at hx;rcases hx with rfl | rfl | rfl | rfl | rfl | rfl | rfl | rfl <;> (dsimp only;omega)) (.slice Ye ye1 ye2)
         have h9:=h9.set (a:=⟨gD,1,none⟩) hord.2.2.2.2.2.2.2.2.2.2.1 (fun x hx=>by simp at hx;rcases hx with rfl | rfl | rfl | rfl | rfl | rfl | rfl | rfl <;> (dsimp only;omega)) (.slice Yk yk1 yk2)
         have h9:=h9.set (a:=⟨gD,2,none⟩) hord.2.2.2.2.2.2.2.2.2.2.1 (fun x hx=>by simp at hx;rcases hx with rfl | rfl | rfl | rfl | rfl | rfl | rfl | rfl <;> (dsimp only;omega)) (.slice Yc yc1 yc2)
         have h9:=h9.set (a:=⟨gE,0,none⟩) hord.2.2.2.2.2.2.2.2.2.2.2 (fun x hx=>by simp at hx;rcases hx with rfl | rfl | rfl | rfl | rfl | rfl | rfl | rfl <;> (dsimp only;omega)) (.int .i64 zy)
         exact h9
        have q0:W9.cell? ⟨gD,0,none⟩=some (.slice Ye ye1 ye2):=by rw[hW9,hW7];go_simp
        have q1:W9.cell? ⟨gD,1,none⟩=some (.slice Yk yk1 yk2):=by rw[hW9,hW7];go_simp
        have q2:W9.cell? ⟨gD,2,none⟩=some (.slice Yc yc1 yc2):=by rw[hW9,hW7];go_simp
        have q3:W9.cell? ⟨gE,0,none⟩=some (.int .i64 zy):=by rw[hW9,hW7];go_simp
        have HN9:Hid (NoC W9 (fun b=>w.heap.size≤b∧b≠r∧b≠g∧b≠gD∧b≠gE) ⟨ky,⟨Ye,ye1,ye2⟩,⟨Yk,yk1,yk2⟩,⟨Yc,yc1,yc2⟩⟩):=by
         have h:=HVV.out;refine (NoC.keep HNY.out (w':=W9) (by rw[hW9,hW7];simp[World.setCell]) (fun b hb _=>?_)).mono fun b hb _=>⟨by omega,by omega,by omega,by omega,by omega⟩;rw[hW9,hW7];exact (Below.heap_setCell _ ⟨gE,0,none⟩ _ b (fun e=>by have h2:b=gE:=e;omega)).trans (cells3_at b (by omega))
        have HF9:Hid (Free r W9∧Free g W9∧Free gD W9∧Free gE W9):=by
         unfold Hid;rw[hW9,hW7];exact⟨(((HFR.out.set _ _).set _ _).set _ _).set _ _,(((HFG.out.set _ _).set _ _).set _ _).set _ _,(((HFD.out.set _ _).set _ _).set _ _).set _ _,(((HFE.out.set _ _).set _ _).set _ _).set _ _⟩
        have HAP:Hid (ApS w [(⟨p,0,none⟩,.slice Ae ne ce),(⟨p,1,none⟩,.slice Ak nk ck),(⟨q,0,none⟩,.slice xA xn xc),(⟨gB,0,none⟩,.slice xA xn xc)] r g gD gE (UpU t ⟨xp,xa,xs,xv⟩ (a,n) xn (pre++[⟨i,hi⟩])) W9):=
         ⟨⟨ky,⟨Ye,ye1,ye2⟩,⟨Yk,yk1,yk2⟩,⟨Yc,yc1,yc2⟩⟩,zy,HUY.out,HN9.out,(((HKX.out.cons_of q3).cons_of q2).cons_of q1).cons_of q0,HF9.out.1,HF9.out.2.1,HF9.out.2.2.1,HF9.out.2.2.2⟩
        have HKB:Hid (W9.cell? ⟨gB,0,none⟩=V.cell? ⟨gB,0,none⟩):=HKX.out.c7.trans HKV.out.symm;clear z0 z1 z2 z3 m0 m1 m2 m3 q0 q1 q2 q3 hcut9 hW9 hW7
        gi_wp2
        exact⟨HKF.out,⟨HBL.out,HKB.out⟩,HAP.out,HBW.out⟩
       ·go_simp
        clear hHeld;refine Th hK ?_ (fun hHeld=>?_)
        ·exact HKc.out.cj
        clear hK K;clear d0 d1 d2;refine Tc 5 (fun K hK=>?_);go_simp;(go_at_call 49;refine (get_any t Ae Ak ne nk ce ck v1 (xp.take i) xA i xc HLC.out (by omega) (rd_cut HRXV.out (Nat.le_of_lt HI.out)) N.out.2.2 (by have:=N.out;omega) HRV.out).mono ?_);rintro e v2 ⟨Ge,gn,gc,Gk,gm,gd,rfl,hot,hb9⟩;rw[if_pos HTB.out,← HX.out]at hot;have RG:Hid (RdT v2 v2.heap.size x ⟨Ge,gn,gc⟩ ⟨Gk,gm,gd⟩):=hot.rd;clear hot;have HKc:=Lib.hid (HKc.out.later hb9);have HKA:=Lib.hid (HKA.out.later hb9);have HND:=Lib.hid (HND.out.later hb9);have HFR:=Lib.hid (HFR.out.later hb9);have HFG:=Lib.hid (HFG.out.later hb9);have HFD:=Lib.hid (HFD.out.later hb9);have HFE:=Lib.hid (HFE.out.later hb9);have HRV:=Lib.hid (RdT.later HRV.out hb9);have HRXV:=Lib.hid (HRXV.out.later hb9);have HBV:=Lib.hid (HBV.out.trans (hb9.mono HBV.out.size));clear hb9
        clear hHeld;refine Th hK ?_ (fun hHeld=>?_)
        ·exact HKc.out.cj
        clear hK K;refine Tc 8 (fun K hK=>?_);go_simp;(go_at_call 51;refine (update_any x Ge Gk gn gm gc gd key kd De Dk Dc de1 de2 dk1 dk2 dc1 dc2 v2 (LenT.few (by have:=HNX.out;omega)) (by have:=HNX.out;omega) RG.out (LenT.few (by have:=HBD.out;omega)) (by have:=HBD.out;omega) (by have:=HBD.out;omega) HND.out.rd).mono ?_);rw[HKQ.out,HZQ.out];rintro e v3 ⟨Ye,ye1,ye2,Yk,yk1,yk2,Yc,yc1,yc2,rfl,how,hb9⟩;have HNY:Hid (NoC v3 (fun b=>v2.heap.size≤b) ⟨ky,⟨Ye,ye1,ye2⟩,⟨Yk,yk1,yk2⟩,⟨Yc,yc1,yc2⟩⟩):=NoC.of_own how (fun b hb _=>hb);have HVV:Hid (w.heap.size≤v2.heap.size∧r<v2.heap.size∧g<v2.heap.size∧gD<v2.heap.size∧gE<v2.heap.size):=⟨HKc.out.below.size,HFR.out.1,HFG.out.1,HFD.out.1,HFE.out.1⟩;clear how;have HKc:=Lib.hid (HKc.out.later hb9);have HKA:=Lib.hid (HKA.out.later hb9);have HND:=Lib.hid (HND.out.later hb9)
        have HFR:=Lib.hid (HFR.out.later hb9);have HFG:=Lib.hid (HFG.out.later hb9);have HFD:=Lib.hid (HFD.out.later hb9);have HFE:=Lib.hid (HFE.out.later hb9);have HRV:=Lib.hid (RdT.later HRV.out hb9);have HRXV:=Lib.hid (HRXV.out.later hb9);have HBV:=Lib.hid (HBV.out.trans (hb9.mono HBV.out.size));have RG:=Lib.hid (RdT.later RG.out hb9);clear hb9;obtain⟨z0,z1,z2,z3,-⟩:=HKA.out.cj;have m0:=HFD.out.2 0;have m1:=HFD.out.2 1;have m2:=HFD.out.2 2;have m3:=HFE.out.2 0;clear hHeld;refine Th hK ?_ (fun hHeld=>?_)
        ·exact HKc.out.cj
        clear hK K;refine Tk 9 50 ?_;refine Tk 10 60 ?_;refine Tk 11 61 ?_;refine Tc 12 (fun K hK=>?_);go_simp;refine Th hK ?_ (fun hHeld2=>?_)
        ·(try dsimp only)
         have h9:=HKc.out
         have h9:=h9.set (a:=⟨gD,0,none⟩) hord.2.2.2.2.2.2.2.2.2.2.1 (fun x hx=>by simp at hx;rcases hx with rfl | rfl | rfl | rfl | rfl | rfl | rfl | rfl <;> (dsimp only;omega)) (.slice Ye ye1 ye2)
         have h9:=h9.set (a:=⟨gD,1,none⟩) hord.2.2.2.2.2.2.2.2.2.2.1 (fun x hx=>by simp at hx;rcases hx with rfl | rfl | rfl | rfl | rfl | rfl | rfl | rfl <;> (dsimp only;omega)) (.slice Yk yk1 yk2)
         have h9:=h9.set (a:=⟨gD,2,none⟩) hord.2.2.2.2.2.2.2.2.2.2.1 (fun x hx=>by simp at hx;rcases hx with rfl | rfl | rfl | rfl | rfl | rfl | rfl | rfl <;> (dsimp only;omega)) (.slice Yc yc1 yc2)
         exact h9.cj
        clear hK K hHeld;have hHeld:=hHeld2;clear hHeld2;refine Tc 13 (fun K hK=>?_);go_simp;refine Th hK ?_ (fun hHeld2=>?_)
        ·(try dsimp only)
         have h9:=HKc.out
         have h9:=h9.set (a:=⟨gD,0,none⟩) hord.2.2.2.2.2.2.2.2.2.2.1 (fun x hx=>by simp at hx;rcases hx with rfl | rfl | rfl | rfl | rfl | rfl | rfl | rfl <;> (dsimp only;omega)) (.slice Ye ye1 ye2)
         have h9:=h9.set (a:=⟨gD,1,none⟩) hord.2.2.2.2.2.2.2.2.2.2.1 (fun x hx=>by simp at hx;rcases hx with rfl | rfl | rfl | rfl | rfl | rfl | rfl | rfl <;> (dsimp only;omega)) (.slice Yk yk1 yk2)
         have h9:=h9.set (a:=⟨gD,2,none⟩) hord.2.2.2.2.2.2.2.2.2.2.1 (fun x hx=>by simp at hx;rcases hx with rfl | rfl | rfl | rfl | rfl | rfl | rfl | rfl <;> (dsimp only;omega)) (.slice Yc yc1 yc2)
         have h9:=h9.set (a:=⟨gE,0,none⟩) hord.2.2.2.2.2.2.2.2.2.2.2 (fun x hx=>by simp at hx;rcases hx with rfl | rfl | rfl | rfl | rfl | rfl | rfl | rfl <;> (dsimp only;omega)) (.int .i64 zy)
         exact h9.cj
        clear hK K hHeld;have hHeld:=hHeld2;clear hHeld2;refine wpAnyH_done (by kernel_rfl) ?_ _;clear hHeld;obtain⟨W7,hW7⟩:∃ W,W=(((v3.setCell ⟨gD,0,none⟩ (.slice Ye ye1 ye2)).setCell ⟨gD,1,none⟩ (.slice Yk yk1 yk2)).setCell ⟨gD,2,none⟩ (.slice Yc yc1 yc2)):=⟨_,rfl⟩;obtain⟨W9,hW9⟩:∃ W,W=W7.setCell ⟨gE,0,none⟩ (.int .i64 zy):=⟨_,rfl⟩;rw[← hW7,← hW9]
        have HKF:Hid (KeepsFrom W8.heap.size V W9):=by
         unfold Hid;rw[hW9,hW7];exact ((((keepsFrom_of HBV.out).trans (keepsFrom_set _ _ _)).trans (keepsFrom_set _ _ _)).trans (keepsFrom_set _ _ _)).trans (keepsFrom_set _ _ _)
        have HBL:Hid (Below w.heap.size V W9):=by
         unfold Hid;rw[hW9,hW7];exact ((((HBV.out.mono HB.out.size).setCell (p:=⟨gD,0,none⟩) hord.2.2.2.2.2.2.2.2.2.2.1 _).setCell (p:=⟨gD,1,none⟩) hord.2.2.2.2.2.2.2.2.2.2.1 _).setCell (p:=⟨gD,2,none⟩) hord.2.2.2.2.2.2.2.2.2.2.1 _).setCell (p:=⟨gE,0,none⟩) hord.2.2.2.2.2.2.2.2.2.2.2 _
        have HBW:Hid (Below w.heap.size w W9):=HB.out.trans HBL.out
        have HKX:Hid (Kept [(⟨r,0,none⟩,.slice none 0 0),(⟨r,1,none⟩,.slice none 0 0),(⟨r,2,none⟩,.slice none 0 0),(⟨g,0,none⟩,.int .i64 0),(⟨p,0,none⟩,.slice Ae ne ce),(⟨p,1,none⟩,.slice Ak nk ck),(⟨q,0,none⟩,.slice xA xn xc),(⟨gB,0,none⟩,.slice xA xn xc)] w W9):=by
         unfold Hid;rw[hW9,hW7];(try dsimp only);have h9:=HKc.out
         have h9:=h9.set (a:=⟨gD,0,none⟩) hord.2.2.2.2.2.2.2.2.2.2.1 (fun x hx=>by simp at hx;rcases hx with rfl | rfl | rfl | rfl | rfl | rfl | rfl | rfl <;> (dsimp only;omega)) (.slice Ye ye1 ye2)
         have h9:=h9.set (a:=⟨gD,1,none⟩) hord.2.2.2.2.2.2.2.2.2.2.1 (fun x hx=>by simp at hx;rcases hx with rfl | rfl | rfl | rfl | rfl | rfl | rfl | rfl <;> (dsimp only;omega)) (.slice Yk yk1 yk2)
         have h9:=h9.set (a:=⟨gD,2,none⟩) hord.2.2.2.2.2.2.2.2.2.2.1 (fun x hx=>by simp at hx;rcases hx with rfl | rfl | rfl | rfl | rfl | rfl | rfl | rfl <;> (dsimp only;omega)) (.slice Yc yc1 yc2)
         have h9:=h9.set (a:=⟨gE,0,none⟩) hord.2.2.2.2.2.2.2.2.2.2.2 (fun x hx=>by simp at hx;rcases hx with rfl | rfl | rfl | rfl | rfl | rfl | rfl | rfl <;> (dsimp only;omega)) (.int .i64 zy)
         exact h9
        have q0:W9.cell? ⟨gD,0,none⟩=some (.slice Ye ye1 ye2):=by rw[hW9,hW7];go_simp
        have q1:W9.cell? ⟨gD,1,none⟩=some (.slice Yk yk1 yk2):=by rw[hW9,hW7];go_simp
        have q2:W9.cell? ⟨gD,2,none⟩=some (.slice Yc yc1 yc2):=by rw[hW9,hW7];go_simp
        have q3:W9.cell? ⟨gE,0,none⟩=some (.int .i64 zy):=by rw[hW9,hW7];go_simp
        have HN9:Hid (NoC W9 (fun b=>w.heap.size≤b∧b≠r∧b≠g∧b≠gD∧b≠gE) ⟨ky,⟨Ye,ye1,ye2⟩,⟨Yk,yk1,yk2⟩,⟨Yc,yc1,yc2⟩⟩):=by
         have h:=HVV.out;refine (NoC.keep HNY.out (w':=W9) (by rw[hW9,hW7];simp[World.setCell]) (fun b hb _=>?_)).mono fun b hb _=>⟨by omega,by omega,by omega,by omega,by omega⟩;rw[hW9,hW7];exact (Below.heap_setCell _ ⟨gE,0,none⟩ _ b (fun e=>by have h2:b=gE:=e;omega)).trans (cells3_at b (by omega))
        have HF9:Hid (Free r W9∧Free g W9∧Free gD W9∧Free gE W9):=by
         unfold Hid;rw[hW9,hW7];exact⟨(((HFR.out.set _ _).set _ _).set _ _).set _ _,(((HFG.out.set _ _).set _ _).set _ _).set _ _,(((HFD.out.set _ _).set _ _).set _ _).set _ _,(((HFE.out.set _ _).set _ _).set _ _).set _ _⟩
        have HAP:Hid (ApS w [(⟨p,0,none⟩,.slice Ae ne ce),(⟨p,1,none⟩,.slice Ak nk ck),(⟨q,0,none⟩,.slice xA xn xc),(⟨gB,0,none⟩,.slice xA xn xc)] r g gD gE (UpU t ⟨xp,xa,xs,xv⟩ (a,n) xn (pre++[⟨i,hi⟩])) W9):=
         ⟨⟨ky,⟨Ye,ye1,ye2⟩,⟨Yk,yk1,yk2⟩,⟨Yc,yc1,yc2⟩⟩,zy,HUY.out,HN9.out,(((HKX.out.cons_of q3).cons_of q2).cons_of q1).cons_of q0,HF9.out.1,HF9.out.2.1,HF9.out.2.2.1,HF9.out.2.2.2⟩
        have HKB:Hid (W9.cell? ⟨gB,0,none⟩=V.cell? ⟨gB,0,none⟩):=HKX.out.c7.trans HKV.out.symm;clear z0 z1 z2 z3 m0 m1 m2 m3 q0 q1 q2 q3 hcut9 hW9 hW7
        gi_wp2
        exact⟨HKF.out,⟨HBL.out,HKB.out⟩,HAP.out,HBW.out⟩
      ·have HZN:Hid (¬zd=0):=hz
       have f0:(zd != 0)=true:=by simpa using hz
       clear hz;have e0:=HKA.out.c3
       gi_wp2
       have HKc0:=HKc;clear HKc;have HKc:=Lib.hid ((Kept.nil_of HKA.out.below).cons_of HKA.out.c3);clear e0;refine Rnd.held_round (S:=fun W=>W.cell? ⟨gE,0,none⟩=some (.int .i64 zd)) (by kernel_rfl) (by kernel_rfl) (fun ⟨_,_,h⟩=>h) (by have h9:=HKc.out.drew;exact h9.c0) (fun hHeld=>?_);obtain⟨v1,hv1⟩:∃ v,v=V.drew:=⟨_,rfl⟩
       have hb9:Below V.heap.size V v1:=by rw[hv1];exact (Below.refl _ _).drew
       have HKc:=Lib.hid (HKc.out.later hb9);have HKA:=Lib.hid (HKA.out.later hb9);have HFR:=Lib.hid (HFR.out.later hb9);have HFG:=Lib.hid (HFG.out.later hb9);have HBV:=Lib.hid hb9;clear hb9;rw[← hv1]at hHeld ⊢;clear hv1;have z0:=HKA.out.c4;have z1:=HKA.out.c5;have z2:=HKA.out.c6;have z3:=HKA.out.c7;have m0:=HFR.out.2 0;have m1:=HFR.out.2 1;have m2:=HFR.out.2 2;have m3:=HFG.out.2 0;refine Tk 0 48 ?_;refine Tk 1 49 ?_;refine Tc 2 (fun K hK=>?_);go_simp;refine Th hK ?_ (fun hHeld2=>?_)
       ·(try dsimp only)
        have h9:=HKc.out.st3 (g:=r) hwr (fun x hx=>by simp at hx;rcases hx with rfl <;> (dsimp only;omega)) (.slice none 0 0) (.slice none 0 0) (.slice none 0 0)
        exact h9.c0
       clear hK K hHeld;have hHeld:=hHeld2;clear hHeld2;refine Tc 3 (fun K hK=>?_);go_simp;refine Th hK ?_ (fun hHeld2=>?_)
       ·(try dsimp only)
        have h9:=HKc.out
        have h9:=h9.set (a:=⟨r,0,none⟩) hwr (fun x hx=>by simp at hx;rcases hx with rfl <;> (dsimp only;omega)) (.slice none 0 0)
        have h9:=h9.set (a:=⟨r,1,none⟩) hwr (fun x hx=>by simp at hx;rcases hx with rfl <;> (dsimp only;omega)) (.slice none 0 0)
        have h9:=h9.set (a:=⟨r,2,none⟩) hwr (fun x hx=>by simp at hx;rcases hx with rfl <;> (dsimp only;omega)) (.slice none 0 0)
        have h9:=h9.set (a:=⟨g,0,none⟩) hwg (fun x hx=>by simp at hx;rcases hx with rfl <;> (dsimp only;omega)) (.int .i64 zd)
        exact h9.c0
       clear hK K hHeld;have hHeld:=hHeld2;clear hHeld2;refine wpAnyH_done (by kernel_rfl) ?_ _;clear hHeld;obtain⟨W9,hW9⟩:∃ W,W=((((v1.setCell ⟨r,0,none⟩ (.slice none 0 0)).setCell ⟨r,1,none⟩ (.slice none 0 0)).setCell ⟨r,2,none⟩ (.slice none 0 0)).setCell ⟨g,0,none⟩ (.int .i64 zd)):=⟨_,rfl⟩
       have HKF:Hid (KeepsFrom W8.heap.size V W9):=by
        unfold Hid;rw[hW9];exact ((((keepsFrom_of HBV.out).trans (keepsFrom_set _ _ _)).trans (keepsFrom_set _ _ _)).trans (keepsFrom_set _ _ _)).trans (keepsFrom_set _ _ _)
       have hbw:Below w.heap.size w W9:=by
        rw[hW9];exact (((HKA.out.below.setCell (p:=⟨r,0,none⟩) hwr _).setCell (p:=⟨r,1,none⟩) hwr _).setCell (p:=⟨r,2,none⟩) hwr _).setCell (p:=⟨g,0,none⟩) hwg _
       have HKX:Hid (Kept [(⟨r,0,none⟩,.slice none 0 0),(⟨r,1,none⟩,.slice none 0 0),(⟨r,2,none⟩,.slice none 0 0),(⟨g,0,none⟩,.int .i64 zd)] w W9):=by
        refine ((((Kept.nil_of hbw).cons_of ?_).cons_of ?_).cons_of ?_).cons_of ?_ <;> (rw[hW9];go_simp)
       have HDN:Hid (DownTo xn (pre++[⟨i,hi⟩])→zd=er):=fun h=>by
        obtain⟨h1,h2,h3⟩:=(HU.out.2 h.pre.1).full HZN.out;rw[HEF.out,if_pos h3];exact h1
       have HW9:=Lib.hid hW9;clear hW9 z0 z1 z2 z3 m0 m1 m2 m3 hbw
       gi_wp2
       rw[← HW9.out];exact⟨HKF.out,zd,rfl,HZN.out,HDN.out,HKX.out⟩
     case done=>
      rintro D ys V hD ⟨hdn,hlen⟩ ⟨⟨⟨kd,⟨De,de1,de2⟩,⟨Dk,dk1,dk2⟩,⟨Dc,dc1,dc2⟩⟩,zd,hU,hN,hK,hf1,hf2,hf3,hf4⟩,hB⟩ hKD
      have hup:UpIs t ⟨xp,xa,xs,xv⟩ (a,n) 0 kd zd:=by
       have h:=hU.2 hdn;rw[hlen,Nat.sub_self]at h;exact h
      have hpost:zd=er∧(er=0→DeltaOf t ⟨xp,xa,xs,xv⟩ (a,n) kd∧dc1≤4*nodes t+4)∧(¬er=0→kd=noneK):=by
       by_cases hz:zd=0
       ·subst hz
        obtain⟨h1,h2⟩:=hup.top
        have h3:er=0:=by rw[HEF.out,if_neg h2]
        refine⟨h3.symm,fun _=>⟨h1,?_⟩,fun h=>absurd h3 h⟩;have h4:=hup.len;have h5:=hN.len;dsimp only at h5;omega
       ·obtain⟨h1,h2,h3⟩:=hup.full hz
        have h4:er=4:=by rw[HEF.out,if_pos h3]
        exact⟨h1.trans h4.symm,fun h=>(by rw[h4]at h;cases h),fun _=>h2⟩
      obtain⟨hzz,hpost⟩:=hpost;obtain rfl:=hzz;have HPOST:=Lib.hid hpost;have HKA:=Lib.hid hK;have HND:=Lib.hid hN;have HFR:=Lib.hid hf1;have HFG:=Lib.hid hf2
      have HD9:Hid (w.heap.size≤D):=by unfold Hid;omega
      have HDD:=Lib.hid hKD;have HBV0:=Lib.hid hB;obtain⟨hd0,hd1,hd2,hd3,-⟩:=HKA.out.cj;clear hpost hup hU hN hK hf1 hf2 hf3 hf4 hB hKD hdn hlen I0 hTX iB;go_wp2_with fail;clear hd0 hd1 hd2 hd3;have HKc:=Lib.hid (((((Kept.nil_of HKA.out.below).cons_of HKA.out.c3).cons_of HKA.out.c2).cons_of HKA.out.c1).cons_of HKA.out.c0);refine wp_region_held_drew (S:=Conj _) (by kernel_rfl) HKc.out.drew.cj (fun hHeld=>?_);obtain⟨v1,hv1⟩:∃ v,v=V.drew:=⟨_,rfl⟩
      have hb9:Below V.heap.size V v1:=by rw[hv1];exact (Below.refl _ _).drew
      have HKc:=Lib.hid (HKc.out.later hb9);have HKA:=Lib.hid (HKA.out.later hb9);have HND:=Lib.hid (HND.out.later hb9);have HFR:=Lib.hid (HFR.out.later hb9);have HFG:=Lib.hid (HFG.out.later hb9);have HBV:=Lib.hid hb9;clear hb9;rw[← hv1]at hHeld ⊢;clear hv1;have z0:=HKA.out.c4;have z1:=HKA.out.c5;have z2:=HKA.out.c6;have z3:=HKA.out.c7;have m0:=HFR.out.2 0;have m1:=HFR.out.2 1;have m2:=HFR.out.2 2;have m3:=HFG.out.2 0;refine Tk 0 62 ?_;refine Tk 1 63 ?_;refine Tc 2 (fun K hK=>?_);go_simp;refine Th hK ?_ (fun hHeld2=>?_)
      ·(try dsimp only)
       have h9:=HKc.out.st3 (g:=r) hwr (fun x hx=>by simp at hx;rcases hx with rfl | rfl | rfl | rfl <;> (dsimp only;omega)) (.slice De de1 de2) (.slice Dk dk1 dk2) (.slice Dc dc1 dc2)
       exact h9.cj
      clear hK K hHeld;have hHeld:=hHeld2;clear hHeld2;refine Tc 3 (fun K hK=>?_);go_simp;refine Th hK ?_ (fun hHeld2=>?_)
      ·(try dsimp only)
       have h9:=HKc.out
       have h9:=h9.set (a:=⟨r,0,none⟩) hwr (fun x hx=>by simp at hx;rcases hx with rfl | rfl | rfl | rfl <;> (dsimp only;omega)) (.slice De de1 de2)
       have h9:=h9.set (a:=⟨r,1,none⟩) hwr (fun x hx=>by simp at hx;rcases hx with rfl | rfl | rfl | rfl <;> (dsimp only;omega)) (.slice Dk dk1 dk2)
       have h9:=h9.set (a:=⟨r,2,none⟩) hwr (fun x hx=>by simp at hx;rcases hx with rfl | rfl | rfl | rfl <;> (dsimp only;omega)) (.slice Dc dc1 dc2)
       have h9:=h9.set (a:=⟨g,0,none⟩) hwg (fun x hx=>by simp at hx;rcases hx with rfl | rfl | rfl | rfl <;> (dsimp only;omega)) (.int .i64 zd)
       exact h9.cj
      clear hK K hHeld;have hHeld:=hHeld2;clear hHeld2;refine wpAnyH_done (by kernel_rfl) ?_ _;clear hHeld;obtain⟨W7,hW7⟩:∃ W,W=(((v1.setCell ⟨r,0,none⟩ (.slice De de1 de2)).setCell ⟨r,1,none⟩ (.slice Dk dk1 dk2)).setCell ⟨r,2,none⟩ (.slice Dc dc1 dc2)):=⟨_,rfl⟩;obtain⟨W9,hW9⟩:∃ W,W=W7.setCell ⟨g,0,none⟩ (.int .i64 zd):=⟨_,rfl⟩;rw[← hW7,← hW9]
      have HK9:Hid (W9.heap[D]?=some (.deferred (some []))):=by
       have h1:v1.heap[D]?=some (.deferred (some [])):=(HBV.out.block D (Array.getElem?_eq_some_iff.1 HDD.out).1).trans HDD.out;unfold Hid;rw[hW9,hW7];exact (KeepsOthers.setCell _ _ _).same D _ ((KeepsOthers.setCell _ _ _).same D _ ((KeepsOthers.setCell _ _ _).same D _ ((KeepsOthers.setCell _ _ _).same D _ h1 rfl) rfl) rfl) rfl
      have hbw:Below w.heap.size w W9:=by
       rw[hW9,hW7];exact (((HKA.out.below.setCell (p:=⟨r,0,none⟩) hwr _).setCell (p:=⟨r,1,none⟩) hwr _).setCell (p:=⟨r,2,none⟩) hwr _).setCell (p:=⟨g,0,none⟩) hwg _
      have HJ:Hid (Kept [(⟨r,0,none⟩,.slice De de1 de2),(⟨r,1,none⟩,.slice Dk dk1 dk2),(⟨r,2,none⟩,.slice Dc dc1 dc2),(⟨g,0,none⟩,.int .i64 zd)] w W9):=by
       refine ((((Kept.nil_of hbw).cons_of ?_).cons_of ?_).cons_of ?_).cons_of ?_ <;> (rw[hW9,hW7];go_simp)
      have HN9:Hid (NoC W9 (fun b=>w.heap.size≤b∧b≠r∧b≠g∧b≠gD∧b≠gE) ⟨kd,⟨De,de1,de2⟩,⟨Dk,dk1,dk2⟩,⟨Dc,dc1,dc2⟩⟩):=by
       refine NoC.keep HND.out (by rw[hW9,hW7];simp[World.setCell]) (fun b hb _=>?_);rw[hW9,hW7];exact (Below.heap_setCell _ ⟨g,0,none⟩ _ b (fun e=>hb.2.2.1 e)).trans (cells3_at b hb.2.1)
      clear z0 z1 z2 z3 m0 m1 m2 m3 hW9 hW7 hbw;go_wp2_with fail;dsimp only[Rnd.still];refine⟨by simp,.inl ⟨_,_,rfl,run_takeDeferred HK9.out,?_⟩⟩;have hg:=grownBy_putObj' W9 D (.deferred none)
      have hr:∀ r,some D=some r→∃ o:Obj,W9.heap[r]?=some o∧o.isCells=false:=fun r e=>by cases e;exact⟨_,HK9.out,rfl⟩
      have hc0:=cell_kept HJ.out.c0 hg hr;have hc1:=cell_kept HJ.out.c1 hg hr;have hc2:=cell_kept HJ.out.c2 hg hr;have hc3:=cell_kept HJ.out.c3 hg hr;refine⟨.tuple #[.agg #[.slice De de1 de2,.slice Dk dk1 dk2,.slice Dc dc1 dc2],.int .i64 zd],by simp[results,Tryz.f20,go_sem,hc0,hc1,hc2,hc3],kd,De,de1,de2,Dk,dk1,dk2,Dc,dc1,dc2,rfl,(by have h:=NoC.grown HN9.out hg hr;exact⟨RdO.mono (fun b hb _=>hb.1) _ h.tree,h.len,h.ctx.mono fun b hb _=>hb.1⟩),HPOST.out,HJ.out.below.trans (belowK_b (w:=w) (Nat.le_refl _) W9 D _ _ HD9.out HK9.out rfl rfl)⟩
     case stop=>
      rintro D c' pre W9 hD hSp ⟨z,rfl,hz,her9,hK⟩ hKD;obtain rfl:=her9 hSp;have HJ:=Lib.hid hK;have HK9:=Lib.hid hKD
      have HD9:Hid (w.heap.size≤D):=by unfold Hid;omega
      have HZ9:=Lib.hid hz;clear hK hKD I0 hTX iB her9 hz
      gi_wp2
      dsimp only[Rnd.still];refine⟨by simp,.inl ⟨_,_,rfl,run_takeDeferred HK9.out,?_⟩⟩;have hg:=grownBy_putObj' W9 D (.deferred none)
      have hr:∀ r,some D=some r→∃ o:Obj,W9.heap[r]?=some o∧o.isCells=false:=fun r e=>by cases e;exact⟨_,HK9.out,rfl⟩
      have hc0:=cell_kept HJ.out.c0 hg hr;have hc1:=cell_kept HJ.out.c1 hg hr;have hc2:=cell_kept HJ.out.c2 hg hr;have hc3:=cell_kept HJ.out.c3 hg hr;refine⟨.tuple #[.agg #[.slice none 0 0,.slice none 0 0,.slice none 0 0],.int .i64 z],by simp[results,Tryz.f20,go_sem,hc0,hc1,hc2,hc3],noneK,none,0,0,none,0,0,none,0,0,rfl,OwC.no _ _,⟨fun h=>absurd h HZ9.out,fun _=>rfl⟩,HJ.out.below.trans (belowK_b (w:=w) (Nat.le_refl _) W9 D _ _ HD9.out HK9.out rfl rfl)⟩
  ·have HNE:Hid (¬e0=0):=hz0
   have f0:(e0 != 0)=true:=by simpa using hz0
   clear hz0;obtain⟨c0,c1,c2,c3,c4,c5,c6,c7,-⟩:=HKc.out.cj;go_enter Tryz.func20,Tryz.ntmps20;go_wp2_with fail;rw[← HW.out,← HP.out]
   try rw[← HG0.out]
   try rw[← HR0.out]
   try rw[← HS0.out]
   try rw[← HQ.out]
   refine (rightT_any t Ae Ak ne nk ce ck W N.out.2.2 R.out).mono ?_;rw[HY1.out];rintro e v1 ⟨rfl,hb9⟩;have HKc:=Lib.hid (HKc.out.later hb9);have R:=Lib.hid (RdT.later R.out hb9);have RX:=Lib.hid (RX.out.later hb9);have HKR:=Lib.hid (HKR.out.later hb9);have HFR:=Lib.hid (HFR.out.later hb9);have HFG:=Lib.hid (HFG.out.later hb9);clear hb9;clear c0 c1 c2 c3 c4 c5 c6 c7;obtain⟨c0,c1,c2,c3,c4,c5,c6,c7,-⟩:=HKc.out.cj;go_wp2_with fail;refine (ocheck_any xp xa xs xv xA xn xc v1 e0 HE0.out (by have:=N.out;omega) RX.out).mono ?_;rintro e v2 ⟨rfl,hb9⟩;have HKc:=Lib.hid (HKc.out.later hb9);have R:=Lib.hid (RdT.later R.out hb9);have RX:=Lib.hid (RX.out.later hb9);have HKR:=Lib.hid (HKR.out.later hb9);have HFR:=Lib.hid (HFR.out.later hb9);have HFG:=Lib.hid (HFG.out.later hb9);clear hb9;clear c0 c1 c2 c3 c4 c5 c6 c7
   have hz1:e0=er:=by
    rw[← HER.out];unfold appE;rw[if_neg HNT.out,if_pos (by rw[HE0.out];exact HNE.out)];exact HE0.out.symm
   subst hz1;obtain⟨z0,z1,z2,z3,-⟩:=HKR.out.cj;have m0:=HFR.out.2 0;have m1:=HFR.out.2 1;have m2:=HFR.out.2 2;have m3:=HFG.out.2 0;obtain⟨W9,hW9⟩:∃ W,W=(((v2.setCell ⟨r,0,none⟩ (.slice none 0 0)).setCell ⟨r,1,none⟩ (.slice none 0 0)).setCell ⟨r,2,none⟩ (.slice none 0 0)).setCell ⟨g,0,none⟩ (.int .i64 e0):=⟨_,rfl⟩
   have HB9:Hid (Below w.heap.size w W9):=by
    unfold Hid;rw[hW9];exact (((HKc.out.below.setCell (p:=⟨r,0,none⟩) hwr _).setCell (p:=⟨r,1,none⟩) hwr _).setCell (p:=⟨r,2,none⟩) hwr _).setCell (p:=⟨g,0,none⟩) hwg _
   have l0:W9.cell? ⟨r,0,none⟩=some (.slice none 0 0):=by rw[hW9];go_simp
   have l1:W9.cell? ⟨r,1,none⟩=some (.slice none 0 0):=by rw[hW9];go_simp
   have l2:W9.cell? ⟨r,2,none⟩=some (.slice none 0 0):=by rw[hW9];go_simp
   have l3:W9.cell? ⟨g,0,none⟩=some (.int .i64 e0):=by rw[hW9];go_simp
   have HW9:=Lib.hid hW9;clear hW9;go_wp2_with fail;rw[← HW9.out];refine bodyPost_ret (v:=.tuple #[.agg #[.slice none 0 0,.slice none 0 0,.slice none 0 0],.int .i64 e0]) (by simp[results,Tryz.results20,go_sem,l0,l1,l2,l3]) rfl ⟨noneK,none,0,0,none,0,0,none,0,0,rfl,OwC.no _ _,⟨fun h=>absurd h HNE.out,fun _=>rfl⟩,HB9.out⟩
end Cs
end Go.Proofs.YtgeafpaognhokaaGreat
