/- Changes: a view: the program's. -/
import Derived.Test.YtgeafpaognhokaaGreatOpView
import Derived.Test.YtgeafpaognhokaaGreatG60
import Derived.Test.YtgeafpaognhokaaGreatG50
namespace Go.Proofs.YtgeafpaognhokaaGreat
open Go.ChangeShapes Go.WideShapes Go.ChangeAt Go.RowKit
namespace Cs
open Tr Cx Sp Rw Classical
theorem boxV9 (w:World) (Ge Gk:Option Addr) (gn gm gc gd:Nat):∃ (W:World) (p9 r:Nat),Hid (W=(w.alloc (.cells #[.slice Ge gn gc,.slice Gk gm gd] 35)).alloc (.cells #[.int .i64 0,.bool false,.int .i64 0,.slice none 0 0] 51))∧Hid (p9=w.heap.size)∧Hid (r=p9+1)∧Hid (Kept [(⟨p9,0,none⟩,.slice Ge gn gc),(⟨p9,1,none⟩,.slice Gk gm gd)] w W)∧Hid (Kept [(⟨r,0,none⟩,.int .i64 0),(⟨r,1,none⟩,.bool false),(⟨r,2,none⟩,.int .i64 0),(⟨r,3,none⟩,.slice none 0 0)] w W)∧Hid (Free r W):=by
 refine⟨_,_,_,rfl,rfl,rfl,?_,?_,⟨by simp,fun j=>by go_simp⟩⟩
 ·have h0:=Kept.nil_of (show Below w.heap.size w ((w.alloc (.cells #[.slice Ge gn gc,.slice Gk gm gd] 35)).alloc (.cells #[.int .i64 0,.bool false,.int .i64 0,.slice none 0 0] 51)) from ((Below.refl _ _).alloc (Nat.le_refl _) _).alloc (by simp) _)
  refine (h0.cons_of ?_).cons_of ?_ <;> go_simp
 ·have h0:=Kept.nil_of (show Below w.heap.size w ((w.alloc (.cells #[.slice Ge gn gc,.slice Gk gm gd] 35)).alloc (.cells #[.int .i64 0,.bool false,.int .i64 0,.slice none 0 0] 51)) from ((Below.refl _ _).alloc (Nat.le_refl _) _).alloc (by simp) _)
  refine (((h0.cons_of ?_).cons_of ?_).cons_of ?_).cons_of ?_ <;> go_simp
def ViewOwn (v:Vw) (w:World) (e:Ending) (w':World):Prop:=∃ (A:Option Addr) (c:Nat),e = .returned (.agg #[.int .i64 v.kd,.bool v.on,.int .i64 v.n,.slice A v.l.length c])∧Hid (Own w' w.heap.size 9 1 A v.l.length c (Tr.strs v.l))∧Below w.heap.size w w'
theorem own_none (w:World) (b:Nat):Own w b 9 1 none 0 0 (Tr.strs []):=⟨World.ownsRow_nil _ _ _ _,by simp[Tr.strs]⟩
set_option maxRecDepth 100000 in
set_option maxHeartbeats 4000000 in
theorem oview_any (x:T) (Ge Gk:Option Addr) (gn gm gc gd:Nat) (kd:Nat) (v:Vw) (w:World) (hk:1≤kd∧kd≤5) (hv:ReadOk x kd v) (hx:RightT 5 x) (hn2:nodes x≤240) (hr:RdT w w.heap.size x ⟨Ge,gn,gc⟩ ⟨Gk,gm,gd⟩) :
  Calls Tryz.prog 60 #[.int .i64 kd,.agg #[.slice Ge gn gc,.slice Gk gm gd]] w (ViewOwn v w):=by
 obtain⟨W0,p9,r,HW,HP,HR0,HKc,HKR,HFR⟩:=boxV9 w Ge Gk gn gm gc gd
 have hwr:w.heap.size≤r:=by have:=HP.out;have:=HR0.out;omega
 have hpr:p9<r:=by have:=HP.out;have:=HR0.out;omega
 have R:=Lib.hid (RdT.later hr HKc.out.below)
 have HGN:Hid (x.es.length=gn∧x.ks.length=gm):=by
  have h:=hr;rw[← T.eta x]at h;exact rd_lens h
 have HRD:=Lib.hid hv;have L:=Lib.hid (LenT.few (t:=x) (by omega));have N:Hid (nodes x≤240):=hn2;have HY:Hid (Tr.rightB 5 x=true):=Tr.rightB_iff.2 hx;have HRW:Hid (r<W0.heap.size):=HFR.out.1
 have hk6:kd=1∨kd=2∨kd=3∨kd=4∨kd=5:=by omega
 clear hv hn2 hr hx hk
 rcases hk6 with rfl | rfl | rfl | rfl | rfl
 ·have HVV:Hid (v=⟨1,decide (0<gn),0,[]⟩):=by
   have h1:v.kd=1:=HRD.out.kd;have h2:=HRD.out.on;have h3:=HRD.out.n;have h4:=HRD.out;have h5:=HGN.out;obtain⟨a1,a2,a3,a4⟩:=v;dsimp only at h1 h2 h3;unfold Hid;rw[h1,h2,h3];have h6:=h4.l0 (by omega);dsimp only at h6;rw[h6,if_neg (by decide),h5.1];simp
  have hws:w.heap.size≤W0.heap.size∧r<W0.heap.size:=⟨HKc.out.below.size,HFR.out.1⟩;have o0:=HKc.out.c0;have o1:=HKc.out.c1;go_enter Tryz.func60,Tryz.ntmps60;obtain⟨vb,hvb⟩:∃ g,g=W0.heap.size:=⟨_,rfl⟩;obtain⟨v1,hv1⟩:∃ W,W=W0.alloc (.cells #[.int .i64 1,.bool false,.int .i64 0,.slice none 0 0] 51):=⟨_,rfl⟩
  have hb9:Below W0.heap.size W0 v1:=by rw[hv1];exact Dt.box_below _ _ _
  have b0:v1.cell? ⟨vb,0,none⟩=some (.int .i64 1):=by rw[hv1,hvb];go_simp
  have b1:v1.cell? ⟨vb,1,none⟩=some (.bool false):=by rw[hv1,hvb];go_simp
  have b2:v1.cell? ⟨vb,2,none⟩=some (.int .i64 0):=by rw[hv1,hvb];go_simp
  have b3:v1.cell? ⟨vb,3,none⟩=some (.slice none 0 0):=by rw[hv1,hvb];go_simp
  have HKc:=Lib.hid (HKc.out.later hb9);have R:=Lib.hid (RdT.later R.out hb9);have HKR:=Lib.hid (HKR.out.later hb9);have HFR:=Lib.hid (HFR.out.later hb9);clear hb9;have HKc:=Lib.hid ((((HKc.out.cons_of b3).cons_of b2).cons_of b1).cons_of b0);have Hvb:=Lib.hid hvb;have Hv1:=Lib.hid hv1;clear hvb hv1 b0 b1 b2 b3;have hbl:vb<v1.heap.size:=World.block_lt_of_cell? _ _ HKc.out.c0;have HFVB:Hid (Free vb v1):=⟨hbl,fun j=>by rw[Hv1.out,Hvb.out];go_simp⟩
  have HWV0:Hid (w.heap.size≤vb∧r<vb):=by unfold Hid;rw[Hvb.out];exact hws
  have HWV:Hid (w.heap.size≤vb):=HWV0.out.1;have HBV:Hid (r<v1.heap.size∧vb<v1.heap.size):=⟨HFR.out.1,hbl⟩;have HBV2:Hid (w.heap.size≤v1.heap.size):=HKc.out.below.size
  have HVB2:Hid (vb=r+1):=by unfold Hid;rw[Hvb.out,HW.out,HR0.out,HP.out];simp
  clear hbl hws;clear o0 o1;go_wp2_with fail;rw[← HW.out,← Hv1.out]
  try rw[← HP.out]
  try rw[← HR0.out]
  try rw[← HVB2.out]
  refine (on_any x Ge Gk gn gm gc gd v1 (decide (0<gn)) (by rw[HY.out];rfl) L.out R.out).mono ?_;rintro e v2 ⟨rfl,hb9⟩;have HKc:=Lib.hid (HKc.out.later hb9);have R:=Lib.hid (RdT.later R.out hb9);have HKR:=Lib.hid (HKR.out.later hb9);have HFR:=Lib.hid (HFR.out.later hb9);have HFVB:=Lib.hid (HFVB.out.later hb9);clear hb9;have hwv:w.heap.size≤vb:=HWV.out;have hrv:r<vb:=HWV0.out.2;have k1:=HFVB.out.2 1;obtain⟨c0,c1,c2,c3,c4,c5,-⟩:=HKc.out.cj;obtain⟨z0,z1,z2,z3,-⟩:=HKR.out.cj;have m0:=HFR.out.2 0;have m1:=HFR.out.2 1;have m2:=HFR.out.2 2;have m3:=HFR.out.2 3;obtain⟨W9,hW9⟩:∃ W,W=((((v2.setCell ⟨vb,1,none⟩ (.bool (decide (0<gn)))).setCell ⟨r,0,none⟩ (.int .i64 1)).setCell ⟨r,1,none⟩ (.bool (decide (0<gn)))).setCell ⟨r,2,none⟩ (.int .i64 0)).setCell ⟨r,3,none⟩ (.slice none 0 0):=⟨_,rfl⟩
  have HB9:Hid (Below w.heap.size w W9):=by
   unfold Hid;rw[hW9];exact ((((HKc.out.below.setCell (p:=⟨vb,1,none⟩) HWV.out _).setCell (p:=⟨r,0,none⟩) hwr _).setCell (p:=⟨r,1,none⟩) hwr _).setCell (p:=⟨r,2,none⟩) hwr _).setCell (p:=⟨r,3,none⟩) hwr _
  have l0:W9.cell? ⟨r,0,none⟩=some (.int .i64 1):=by rw[hW9];go_simp
  have l1:W9.cell? ⟨r,1,none⟩=some (.bool (decide (0<gn))):=by rw[hW9];go_simp
  have l2:W9.cell? ⟨r,2,none⟩=some (.int .i64 0):=by rw[hW9];go_simp
  have l3:W9.cell? ⟨r,3,none⟩=some (.slice none 0 0):=by rw[hW9];go_simp
  have HW9:=Lib.hid hW9;clear hW9;go_wp2_with fail;rw[← HW9.out];refine bodyPost_ret (v:=.agg #[.int .i64 1,.bool (decide (0<gn)),.int .i64 0,.slice none 0 0]) (by simp[results,Tryz.results60,go_sem,l0,l1,l2,l3]) rfl ?_;rw[HVV.out];exact⟨none,0,rfl,own_none _ _,HB9.out⟩
 ·have HVV:Hid (v=⟨2,false,0,elemsT x⟩):=by
   have h1:v.kd=2:=HRD.out.kd;have h2:=HRD.out.on;have h3:=HRD.out.n;have h4:=HRD.out;have h5:=HGN.out;obtain⟨a1,a2,a3,a4⟩:=v;dsimp only at h1 h2 h3;unfold Hid;rw[h1,h2,h3];rw[if_neg (by decide),← h4.l2 rfl];simp
  have hws:w.heap.size≤W0.heap.size∧r<W0.heap.size:=⟨HKc.out.below.size,HFR.out.1⟩;have o0:=HKc.out.c0;have o1:=HKc.out.c1;go_enter Tryz.func60,Tryz.ntmps60;obtain⟨vb,hvb⟩:∃ g,g=W0.heap.size:=⟨_,rfl⟩;obtain⟨v1,hv1⟩:∃ W,W=W0.alloc (.cells #[.int .i64 2,.bool false,.int .i64 0,.slice none 0 0] 51):=⟨_,rfl⟩
  have hb9:Below W0.heap.size W0 v1:=by rw[hv1];exact Dt.box_below _ _ _
  have b0:v1.cell? ⟨vb,0,none⟩=some (.int .i64 2):=by rw[hv1,hvb];go_simp
  have b1:v1.cell? ⟨vb,1,none⟩=some (.bool false):=by rw[hv1,hvb];go_simp
  have b2:v1.cell? ⟨vb,2,none⟩=some (.int .i64 0):=by rw[hv1,hvb];go_simp
  have b3:v1.cell? ⟨vb,3,none⟩=some (.slice none 0 0):=by rw[hv1,hvb];go_simp
  have HKc:=Lib.hid (HKc.out.later hb9);have R:=Lib.hid (RdT.later R.out hb9);have HKR:=Lib.hid (HKR.out.later hb9);have HFR:=Lib.hid (HFR.out.later hb9);clear hb9;have HKc:=Lib.hid ((((HKc.out.cons_of b3).cons_of b2).cons_of b1).cons_of b0);have Hvb:=Lib.hid hvb;have Hv1:=Lib.hid hv1;clear hvb hv1 b0 b1 b2 b3;have hbl:vb<v1.heap.size:=World.block_lt_of_cell? _ _ HKc.out.c0;have HFVB:Hid (Free vb v1):=⟨hbl,fun j=>by rw[Hv1.out,Hvb.out];go_simp⟩
  have HWV0:Hid (w.heap.size≤vb∧r<vb):=by unfold Hid;rw[Hvb.out];exact hws
  have HWV:Hid (w.heap.size≤vb):=HWV0.out.1;have HBV:Hid (r<v1.heap.size∧vb<v1.heap.size):=⟨HFR.out.1,hbl⟩;have HBV2:Hid (w.heap.size≤v1.heap.size):=HKc.out.below.size
  have HVB2:Hid (vb=r+1):=by unfold Hid;rw[Hvb.out,HW.out,HR0.out,HP.out];simp
  clear hbl hws;clear o0 o1;go_wp2_with fail;rw[← HW.out,← Hv1.out]
  try rw[← HP.out]
  try rw[← HR0.out]
  try rw[← HVB2.out]
  refine (selems_own x Ge Gk gn gm gc gd v1 (elemsT x) (if_pos HY.out) L.out (by have:=N.out;omega) R.out).mono ?_;rintro e v2 ⟨LA,lm,lc,rfl,hro,hb9⟩;have HOV:Hid (Own v2 v1.heap.size 9 1 LA lm lc (Tr.strs (elemsT x))):=hro.out;clear hro;have HKc:=Lib.hid (HKc.out.later hb9);have R:=Lib.hid (RdT.later R.out hb9);have HKR:=Lib.hid (HKR.out.later hb9);have HFR:=Lib.hid (HFR.out.later hb9);have HFVB:=Lib.hid (HFVB.out.later hb9);clear hb9;have hwv:w.heap.size≤vb:=HWV.out;have hrv:r<vb:=HWV0.out.2;have k3:=HFVB.out.2 3;obtain⟨c0,c1,c2,c3,c4,c5,-⟩:=HKc.out.cj;obtain⟨z0,z1,z2,z3,-⟩:=HKR.out.cj;have m0:=HFR.out.2 0;have m1:=HFR.out.2 1;have m2:=HFR.out.2 2;have m3:=HFR.out.2 3;obtain⟨W9,hW9⟩:∃ W,W=((((v2.setCell ⟨vb,3,none⟩ (.slice LA lm lc)).setCell ⟨r,0,none⟩ (.int .i64 2)).setCell ⟨r,1,none⟩ (.bool false)).setCell ⟨r,2,none⟩ (.int .i64 0)).setCell ⟨r,3,none⟩ (.slice LA lm lc):=⟨_,rfl⟩
  have HB9:Hid (Below w.heap.size w W9):=by
   unfold Hid;rw[hW9];exact ((((HKc.out.below.setCell (p:=⟨vb,3,none⟩) HWV.out _).setCell (p:=⟨r,0,none⟩) hwr _).setCell (p:=⟨r,1,none⟩) hwr _).setCell (p:=⟨r,2,none⟩) hwr _).setCell (p:=⟨r,3,none⟩) hwr _
  have HR9:Hid (Own W9 w.heap.size 9 1 LA lm lc (Tr.strs (elemsT x))):=by
   unfold Hid;rw[hW9];exact (((((HOV.out.set_below (a:=⟨vb,3,none⟩) HBV.out.2 _).set_below (a:=⟨r,0,none⟩) HBV.out.1 _).set_below (a:=⟨r,1,none⟩) HBV.out.1 _).set_below (a:=⟨r,2,none⟩) HBV.out.1 _).set_below (a:=⟨r,3,none⟩) HBV.out.1 _).mono HBV2.out
  have HL9:=Lib.hid (rd_len1 HR9.out.rd)
  have l0:W9.cell? ⟨r,0,none⟩=some (.int .i64 2):=by rw[hW9];go_simp
  have l1:W9.cell? ⟨r,1,none⟩=some (.bool false):=by rw[hW9];go_simp
  have l2:W9.cell? ⟨r,2,none⟩=some (.int .i64 0):=by rw[hW9];go_simp
  have l3:W9.cell? ⟨r,3,none⟩=some (.slice LA lm lc):=by rw[hW9];go_simp
  have HW9:=Lib.hid hW9;clear hW9;go_wp2_with fail;rw[← HW9.out];refine bodyPost_ret (v:=.agg #[.int .i64 2,.bool false,.int .i64 0,.slice LA lm lc]) (by simp[results,Tryz.results60,go_sem,l0,l1,l2,l3]) rfl ?_;rw[HVV.out];refine⟨LA,lc,?_,?_,HB9.out⟩
  ·dsimp only
   first | rfl | (rw[HL9.out];rfl)
  ·dsimp only
   first | exact HR9.out | (rw[HL9.out];exact HR9.out)
 ·have HVV:Hid (v=⟨3,false,sumE x.es,[]⟩):=by
   have h1:v.kd=3:=HRD.out.kd;have h2:=HRD.out.on;have h3:=HRD.out.n;have h4:=HRD.out;have h5:=HGN.out;obtain⟨a1,a2,a3,a4⟩:=v;dsimp only at h1 h2 h3;unfold Hid;rw[h1,h2,h3];rw[if_pos rfl,← h4.l0 (by omega)];simp
  have hws:w.heap.size≤W0.heap.size∧r<W0.heap.size:=⟨HKc.out.below.size,HFR.out.1⟩;have o0:=HKc.out.c0;have o1:=HKc.out.c1;go_enter Tryz.func60,Tryz.ntmps60;obtain⟨vb,hvb⟩:∃ g,g=W0.heap.size:=⟨_,rfl⟩;obtain⟨v1,hv1⟩:∃ W,W=W0.alloc (.cells #[.int .i64 3,.bool false,.int .i64 0,.slice none 0 0] 51):=⟨_,rfl⟩
  have hb9:Below W0.heap.size W0 v1:=by rw[hv1];exact Dt.box_below _ _ _
  have b0:v1.cell? ⟨vb,0,none⟩=some (.int .i64 3):=by rw[hv1,hvb];go_simp
  have b1:v1.cell? ⟨vb,1,none⟩=some (.bool false):=by rw[hv1,hvb];go_simp
  have b2:v1.cell? ⟨vb,2,none⟩=some (.int .i64 0):=by rw[hv1,hvb];go_simp
  have b3:v1.cell? ⟨vb,3,none⟩=some (.slice none 0 0):=by rw[hv1,hvb];go_simp
  have HKc:=Lib.hid (HKc.out.later hb9);have R:=Lib.hid (RdT.later R.out hb9);have HKR:=Lib.hid (HKR.out.later hb9);have HFR:=Lib.hid (HFR.out.later hb9);clear hb9;have HKc:=Lib.hid ((((HKc.out.cons_of b3).cons_of b2).cons_of b1).cons_of b0);have Hvb:=Lib.hid hvb;have Hv1:=Lib.hid hv1;clear hvb hv1 b0 b1 b2 b3;have hbl:vb<v1.heap.size:=World.block_lt_of_cell? _ _ HKc.out.c0;have HFVB:Hid (Free vb v1):=⟨hbl,fun j=>by rw[Hv1.out,Hvb.out];go_simp⟩
  have HWV0:Hid (w.heap.size≤vb∧r<vb):=by unfold Hid;rw[Hvb.out];exact hws
  have HWV:Hid (w.heap.size≤vb):=HWV0.out.1;have HBV:Hid (r<v1.heap.size∧vb<v1.heap.size):=⟨HFR.out.1,hbl⟩;have HBV2:Hid (w.heap.size≤v1.heap.size):=HKc.out.below.size
  have HVB2:Hid (vb=r+1):=by unfold Hid;rw[Hvb.out,HW.out,HR0.out,HP.out];simp
  clear hbl hws;clear o0 o1;go_wp2_with fail;rw[← HW.out,← Hv1.out]
  try rw[← HP.out]
  try rw[← HR0.out]
  try rw[← HVB2.out]
  refine (value_any x Ge Gk gn gm gc gd v1 (sumE x.es) (if_pos HY.out) L.out (by have:=N.out;omega) R.out).mono ?_;rintro e v2 ⟨rfl,hb9⟩;have HKc:=Lib.hid (HKc.out.later hb9);have R:=Lib.hid (RdT.later R.out hb9);have HKR:=Lib.hid (HKR.out.later hb9);have HFR:=Lib.hid (HFR.out.later hb9);have HFVB:=Lib.hid (HFVB.out.later hb9);clear hb9;have hwv:w.heap.size≤vb:=HWV.out;have hrv:r<vb:=HWV0.out.2;have k2:=HFVB.out.2 2;obtain⟨c0,c1,c2,c3,c4,c5,-⟩:=HKc.out.cj;obtain⟨z0,z1,z2,z3,-⟩:=HKR.out.cj;have m0:=HFR.out.2 0;have m1:=HFR.out.2 1;have m2:=HFR.out.2 2;have m3:=HFR.out.2 3;obtain⟨W9,hW9⟩:∃ W,W=((((v2.setCell ⟨vb,2,none⟩ (.int .i64 (sumE x.es))).setCell ⟨r,0,none⟩ (.int .i64 3)).setCell ⟨r,1,none⟩ (.bool false)).setCell ⟨r,2,none⟩ (.int .i64 (sumE x.es))).setCell ⟨r,3,none⟩ (.slice none 0 0):=⟨_,rfl⟩
  have HB9:Hid (Below w.heap.size w W9):=by
   unfold Hid;rw[hW9];exact ((((HKc.out.below.setCell (p:=⟨vb,2,none⟩) HWV.out _).setCell (p:=⟨r,0,none⟩) hwr _).setCell (p:=⟨r,1,none⟩) hwr _).setCell (p:=⟨r,2,none⟩) hwr _).setCell (p:=⟨r,3,none⟩) hwr _
  have l0:W9.cell? ⟨r,0,none⟩=some (.int .i64 3):=by rw[hW9];go_simp
  have l1:W9.cell? ⟨r,1,none⟩=some (.bool false):=by rw[hW9];go_simp
  have l2:W9.cell? ⟨r,2,none⟩=some (.int .i64 (sumE x.es)):=by rw[hW9];go_simp
  have l3:W9.cell? ⟨r,3,none⟩=some (.slice none 0 0):=by rw[hW9];go_simp
  have HW9:=Lib.hid hW9;clear hW9;go_wp2_with fail;rw[← HW9.out];refine bodyPost_ret (v:=.agg #[.int .i64 3,.bool false,.int .i64 (sumE x.es),.slice none 0 0]) (by simp[results,Tryz.results60,go_sem,l0,l1,l2,l3]) rfl ?_;rw[HVV.out];exact⟨none,0,rfl,own_none _ _,HB9.out⟩
 ·have HVV:Hid (v=⟨4,false,0,v.l⟩):=by
   have h1:v.kd=4:=HRD.out.kd;have h2:=HRD.out.on;have h3:=HRD.out.n;have h4:=HRD.out;have h5:=HGN.out;obtain⟨a1,a2,a3,a4⟩:=v;dsimp only at h1 h2 h3;unfold Hid;rw[h1,h2,h3];rw[if_neg (by decide)];simp
  have hws:w.heap.size≤W0.heap.size∧r<W0.heap.size:=⟨HKc.out.below.size,HFR.out.1⟩;have o0:=HKc.out.c0;have o1:=HKc.out.c1;go_enter Tryz.func60,Tryz.ntmps60;obtain⟨vb,hvb⟩:∃ g,g=W0.heap.size:=⟨_,rfl⟩;obtain⟨v1,hv1⟩:∃ W,W=W0.alloc (.cells #[.int .i64 4,.bool false,.int .i64 0,.slice none 0 0] 51):=⟨_,rfl⟩
  have hb9:Below W0.heap.size W0 v1:=by rw[hv1];exact Dt.box_below _ _ _
  have b0:v1.cell? ⟨vb,0,none⟩=some (.int .i64 4):=by rw[hv1,hvb];go_simp
  have b1:v1.cell? ⟨vb,1,none⟩=some (.bool false):=by rw[hv1,hvb];go_simp
  have b2:v1.cell? ⟨vb,2,none⟩=some (.int .i64 0):=by rw[hv1,hvb];go_simp
  have b3:v1.cell? ⟨vb,3,none⟩=some (.slice none 0 0):=by rw[hv1,hvb];go_simp
  have HKc:=Lib.hid (HKc.out.later hb9);have R:=Lib.hid (RdT.later R.out hb9);have HKR:=Lib.hid (HKR.out.later hb9);have HFR:=Lib.hid (HFR.out.later hb9);clear hb9;have HKc:=Lib.hid ((((HKc.out.cons_of b3).cons_of b2).cons_of b1).cons_of b0);have Hvb:=Lib.hid hvb;have Hv1:=Lib.hid hv1;clear hvb hv1 b0 b1 b2 b3;have hbl:vb<v1.heap.size:=World.block_lt_of_cell? _ _ HKc.out.c0;have HFVB:Hid (Free vb v1):=⟨hbl,fun j=>by rw[Hv1.out,Hvb.out];go_simp⟩
  have HWV0:Hid (w.heap.size≤vb∧r<vb):=by unfold Hid;rw[Hvb.out];exact hws
  have HWV:Hid (w.heap.size≤vb):=HWV0.out.1;have HBV:Hid (r<v1.heap.size∧vb<v1.heap.size):=⟨HFR.out.1,hbl⟩;have HBV2:Hid (w.heap.size≤v1.heap.size):=HKc.out.below.size
  have HVB2:Hid (vb=r+1):=by unfold Hid;rw[Hvb.out,HW.out,HR0.out,HP.out];simp
  clear hbl hws;clear o0 o1;go_wp2_with fail;rw[← HW.out,← Hv1.out]
  try rw[← HP.out]
  try rw[← HR0.out]
  try rw[← HVB2.out]
  refine (rvalues_own x Ge Gk gn gm gc gd v1 v.l v.l.length ⟨fun _=>HRD.out.l4 rfl,fun h=>by rw[HY.out]at h;cases h⟩ rfl L.out (by have:=N.out;omega) R.out).mono ?_;rintro e v2 ⟨LA,lc,rfl,hro,hb9⟩;have HOV:Hid (Own v2 v1.heap.size 9 1 LA v.l.length lc (Tr.strs (v.l))):=hro.out;clear hro;have HKc:=Lib.hid (HKc.out.later hb9);have R:=Lib.hid (RdT.later R.out hb9);have HKR:=Lib.hid (HKR.out.later hb9);have HFR:=Lib.hid (HFR.out.later hb9);have HFVB:=Lib.hid (HFVB.out.later hb9);clear hb9;have hwv:w.heap.size≤vb:=HWV.out;have hrv:r<vb:=HWV0.out.2;have k3:=HFVB.out.2 3;obtain⟨c0,c1,c2,c3,c4,c5,-⟩:=HKc.out.cj;obtain⟨z0,z1,z2,z3,-⟩:=HKR.out.cj;have m0:=HFR.out.2 0;have m1:=HFR.out.2 1;have m2:=HFR.out.2 2;have m3:=HFR.out.2 3;obtain⟨W9,hW9⟩:∃ W,W=((((v2.setCell ⟨vb,3,none⟩ (.slice LA v.l.length lc)).setCell ⟨r,0,none⟩ (.int .i64 4)).setCell ⟨r,1,none⟩ (.bool false)).setCell ⟨r,2,none⟩ (.int .i64 0)).setCell ⟨r,3,none⟩ (.slice LA v.l.length lc):=⟨_,rfl⟩
  have HB9:Hid (Below w.heap.size w W9):=by
   unfold Hid;rw[hW9];exact ((((HKc.out.below.setCell (p:=⟨vb,3,none⟩) HWV.out _).setCell (p:=⟨r,0,none⟩) hwr _).setCell (p:=⟨r,1,none⟩) hwr _).setCell (p:=⟨r,2,none⟩) hwr _).setCell (p:=⟨r,3,none⟩) hwr _
  have HR9:Hid (Own W9 w.heap.size 9 1 LA v.l.length lc (Tr.strs (v.l))):=by
   unfold Hid;rw[hW9];exact (((((HOV.out.set_below (a:=⟨vb,3,none⟩) HBV.out.2 _).set_below (a:=⟨r,0,none⟩) HBV.out.1 _).set_below (a:=⟨r,1,none⟩) HBV.out.1 _).set_below (a:=⟨r,2,none⟩) HBV.out.1 _).set_below (a:=⟨r,3,none⟩) HBV.out.1 _).mono HBV2.out
  have HL9:=Lib.hid (rd_len1 HR9.out.rd)
  have l0:W9.cell? ⟨r,0,none⟩=some (.int .i64 4):=by rw[hW9];go_simp
  have l1:W9.cell? ⟨r,1,none⟩=some (.bool false):=by rw[hW9];go_simp
  have l2:W9.cell? ⟨r,2,none⟩=some (.int .i64 0):=by rw[hW9];go_simp
  have l3:W9.cell? ⟨r,3,none⟩=some (.slice LA v.l.length lc):=by rw[hW9];go_simp
  have HW9:=Lib.hid hW9;clear hW9;go_wp2_with fail;rw[← HW9.out];refine bodyPost_ret (v:=.agg #[.int .i64 4,.bool false,.int .i64 0,.slice LA v.l.length lc]) (by simp[results,Tryz.results60,go_sem,l0,l1,l2,l3]) rfl ?_;rw[HVV.out];refine⟨LA,lc,?_,?_,HB9.out⟩
  ·dsimp only
   first | rfl | (rw[HL9.out];rfl)
  ·dsimp only
   first | exact HR9.out | (rw[HL9.out];exact HR9.out)
 ·have HVV:Hid (v=⟨5,false,0,keysOf x.ks⟩):=by
   have h1:v.kd=5:=HRD.out.kd;have h2:=HRD.out.on;have h3:=HRD.out.n;have h4:=HRD.out;have h5:=HGN.out;obtain⟨a1,a2,a3,a4⟩:=v;dsimp only at h1 h2 h3;unfold Hid;rw[h1,h2,h3];rw[if_neg (by decide),← h4.l5 rfl];simp
  have hws:w.heap.size≤W0.heap.size∧r<W0.heap.size:=⟨HKc.out.below.size,HFR.out.1⟩;have o0:=HKc.out.c0;have o1:=HKc.out.c1;go_enter Tryz.func60,Tryz.ntmps60;obtain⟨vb,hvb⟩:∃ g,g=W0.heap.size:=⟨_,rfl⟩;obtain⟨v1,hv1⟩:∃ W,W=W0.alloc (.cells #[.int .i64 5,.bool false,.int .i64 0,.slice none 0 0] 51):=⟨_,rfl⟩
  have hb9:Below W0.heap.size W0 v1:=by rw[hv1];exact Dt.box_below _ _ _
  have b0:v1.cell? ⟨vb,0,none⟩=some (.int .i64 5):=by rw[hv1,hvb];go_simp
  have b1:v1.cell? ⟨vb,1,none⟩=some (.bool false):=by rw[hv1,hvb];go_simp
  have b2:v1.cell? ⟨vb,2,none⟩=some (.int .i64 0):=by rw[hv1,hvb];go_simp
  have b3:v1.cell? ⟨vb,3,none⟩=some (.slice none 0 0):=by rw[hv1,hvb];go_simp
  have HKc:=Lib.hid (HKc.out.later hb9);have R:=Lib.hid (RdT.later R.out hb9);have HKR:=Lib.hid (HKR.out.later hb9);have HFR:=Lib.hid (HFR.out.later hb9);clear hb9;have HKc:=Lib.hid ((((HKc.out.cons_of b3).cons_of b2).cons_of b1).cons_of b0);have Hvb:=Lib.hid hvb;have Hv1:=Lib.hid hv1;clear hvb hv1 b0 b1 b2 b3;have hbl:vb<v1.heap.size:=World.block_lt_of_cell? _ _ HKc.out.c0;have HFVB:Hid (Free vb v1):=⟨hbl,fun j=>by rw[Hv1.out,Hvb.out];go_simp⟩
  have HWV0:Hid (w.heap.size≤vb∧r<vb):=by unfold Hid;rw[Hvb.out];exact hws
  have HWV:Hid (w.heap.size≤vb):=HWV0.out.1;have HBV:Hid (r<v1.heap.size∧vb<v1.heap.size):=⟨HFR.out.1,hbl⟩;have HBV2:Hid (w.heap.size≤v1.heap.size):=HKc.out.below.size
  have HVB2:Hid (vb=r+1):=by unfold Hid;rw[Hvb.out,HW.out,HR0.out,HP.out];simp
  clear hbl hws;clear o0 o1;go_wp2_with fail;rw[← HW.out,← Hv1.out]
  try rw[← HP.out]
  try rw[← HR0.out]
  try rw[← HVB2.out]
  refine (mkeys_own x Ge Gk gn gm gc gd v1 true HY.out L.out (by have:=N.out;omega) R.out).mono ?_;rintro e v2 ⟨LA,lm,lc,rfl,_,hro,hb9⟩;have HOV:Hid (Own v2 v1.heap.size 9 1 LA lm lc (Tr.strs (keysOf x.ks))):=hro.out;clear hro;have HKc:=Lib.hid (HKc.out.later hb9);have R:=Lib.hid (RdT.later R.out hb9);have HKR:=Lib.hid (HKR.out.later hb9);have HFR:=Lib.hid (HFR.out.later hb9);have HFVB:=Lib.hid (HFVB.out.later hb9);clear hb9;have hwv:w.heap.size≤vb:=HWV.out;have hrv:r<vb:=HWV0.out.2;have k3:=HFVB.out.2 3;obtain⟨c0,c1,c2,c3,c4,c5,-⟩:=HKc.out.cj;obtain⟨z0,z1,z2,z3,-⟩:=HKR.out.cj;have m0:=HFR.out.2 0;have m1:=HFR.out.2 1;have m2:=HFR.out.2 2;have m3:=HFR.out.2 3;obtain⟨W9,hW9⟩:∃ W,W=((((v2.setCell ⟨vb,3,none⟩ (.slice LA lm lc)).setCell ⟨r,0,none⟩ (.int .i64 5)).setCell ⟨r,1,none⟩ (.bool false)).setCell ⟨r,2,none⟩ (.int .i64 0)).setCell ⟨r,3,none⟩ (.slice LA lm lc):=⟨_,rfl⟩
  have HB9:Hid (Below w.heap.size w W9):=by
   unfold Hid;rw[hW9];exact ((((HKc.out.below.setCell (p:=⟨vb,3,none⟩) HWV.out _).setCell (p:=⟨r,0,none⟩) hwr _).setCell (p:=⟨r,1,none⟩) hwr _).setCell (p:=⟨r,2,none⟩) hwr _).setCell (p:=⟨r,3,none⟩) hwr _
  have HR9:Hid (Own W9 w.heap.size 9 1 LA lm lc (Tr.strs (keysOf x.ks))):=by
   unfold Hid;rw[hW9];exact (((((HOV.out.set_below (a:=⟨vb,3,none⟩) HBV.out.2 _).set_below (a:=⟨r,0,none⟩) HBV.out.1 _).set_below (a:=⟨r,1,none⟩) HBV.out.1 _).set_below (a:=⟨r,2,none⟩) HBV.out.1 _).set_below (a:=⟨r,3,none⟩) HBV.out.1 _).mono HBV2.out
  have HL9:=Lib.hid (rd_len1 HR9.out.rd)
  have l0:W9.cell? ⟨r,0,none⟩=some (.int .i64 5):=by rw[hW9];go_simp
  have l1:W9.cell? ⟨r,1,none⟩=some (.bool false):=by rw[hW9];go_simp
  have l2:W9.cell? ⟨r,2,none⟩=some (.int .i64 0):=by rw[hW9];go_simp
  have l3:W9.cell? ⟨r,3,none⟩=some (.slice LA lm lc):=by rw[hW9];go_simp
  have HW9:=Lib.hid hW9;clear hW9;go_wp2_with fail;rw[← HW9.out];refine bodyPost_ret (v:=.agg #[.int .i64 5,.bool false,.int .i64 0,.slice LA lm lc]) (by simp[results,Tryz.results60,go_sem,l0,l1,l2,l3]) rfl ?_;rw[HVV.out];refine⟨LA,lc,?_,?_,HB9.out⟩
  ·dsimp only
   first | rfl | (rw[HL9.out];rfl)
  ·dsimp only
   first | exact HR9.out | (rw[HL9.out];exact HR9.out)
end Cs
end Go.Proofs.YtgeafpaognhokaaGreat
