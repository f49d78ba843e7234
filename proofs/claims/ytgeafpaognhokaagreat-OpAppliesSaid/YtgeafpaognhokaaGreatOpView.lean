/- Changes: what is read: the document's. -/
import Derived.Test.YtgeafpaognhokaaGreatG60
import Derived.Test.YtgeafpaognhokaaGreatG20
import Derived.Test.YtgeafpaognhokaaGreatG50
import Derived.Test.YtgeafpaognhokaaGreatTreeRefRight
namespace Go.Proofs.YtgeafpaognhokaaGreat
open Go.ChangeShapes Go.WideShapes Go.ChangeAt Go.RowKit
namespace Cs
open Tr Cx Sp Rw Classical
structure Vw where
 kd:Nat
 on:Bool
 n:Int
 l:List ByteArray
def zeroV:Vw:=⟨0,false,0,[]⟩
noncomputable def readE (t:T) (p:List ByteArray):Int:=if Tr.rightB 5 t=false then 1 else pathE p
structure ReadOk (x:T) (k9:Nat) (v:Vw):Prop where
 kd:v.kd=k9
 on:v.on=decide (k9=1∧0<x.es.length)
 n:v.n=if k9=3 then sumE x.es else 0
 l2:k9=2→v.l=elemsT x
 l4:k9=4→SortIs (x.es.map E.s) v.l
 l5:k9=5→v.l=keysOf x.ks
 l0:¬(k9=2∨k9=4∨k9=5)→v.l=[]
def ViewIs (v:Vw) (er:Int) (w:World) (e:Ending) (w':World):Prop:=∃ (A:Option Addr) (c:Nat),e = .returned (.tuple #[.agg #[.int .i64 v.kd,.bool v.on,.int .i64 v.n,.slice A v.l.length c],.int .i64 er])∧Hid (Rd w' w'.heap.size 1 A v.l.length c (Tr.strs v.l))∧Below w.heap.size w w'
theorem kindK_le (k:ByteArray):kindK k≤5:=by
 unfold kindK
 split <;> omega
theorem path_last {p:List ByteArray} {m:Nat} (h:PathOk p) (hm:p.length=m+1):1≤lastK p∧lastK p≤5:=by
 have hk:m<p.length:=by omega
 rw[lastK_get hk hm];exact⟨Nat.pos_of_ne_zero (h.each _ (List.getElem_mem hk)).2,kindK_le _⟩
theorem boxTV (w:World) (Ae Ak:Option Addr) (ne nk ce ck:Nat):∃ (W:World) (p9 r:Nat),Hid (W=(w.alloc (.cells #[.slice Ae ne ce,.slice Ak nk ck] 35)).alloc (.cells #[.int .i64 0,.bool false,.int .i64 0,.slice none 0 0] 51))∧Hid (p9=w.heap.size)∧Hid (r=p9+1)∧Hid (Kept [(⟨p9,0,none⟩,.slice Ae ne ce),(⟨p9,1,none⟩,.slice Ak nk ck)] w W)∧Hid (Kept [(⟨r,0,none⟩,.int .i64 0),(⟨r,1,none⟩,.bool false),(⟨r,2,none⟩,.int .i64 0),(⟨r,3,none⟩,.slice none 0 0)] w W)∧Hid (Free r W):=by
 refine⟨_,_,_,rfl,rfl,rfl,?_,?_,⟨by simp,fun j=>by go_simp⟩⟩
 ·have h0:=Kept.nil_of (show Below w.heap.size w ((w.alloc (.cells #[.slice Ae ne ce,.slice Ak nk ck] 35)).alloc (.cells #[.int .i64 0,.bool false,.int .i64 0,.slice none 0 0] 51)) from ((Below.refl _ _).alloc (Nat.le_refl _) _).alloc (by simp) _)
  refine (h0.cons_of ?_).cons_of ?_ <;> go_simp
 ·have h0:=Kept.nil_of (show Below w.heap.size w ((w.alloc (.cells #[.slice Ae ne ce,.slice Ak nk ck] 35)).alloc (.cells #[.int .i64 0,.bool false,.int .i64 0,.slice none 0 0] 51)) from ((Below.refl _ _).alloc (Nat.le_refl _) _).alloc (by simp) _)
  refine (((h0.cons_of ?_).cons_of ?_).cons_of ?_).cons_of ?_ <;> go_simp
set_option maxRecDepth 100000 in
set_option maxHeartbeats 4000000 in
theorem refread_any (t:T) (Ae Ak:Option Addr) (ne nk ce ck:Nat) (p:List ByteArray) (PA:Option Addr) (pn pc:Nat) (v:Vw) (er:Int) (w:World) (her:readE t p=er) (hv:er=0→ReadOk (getT t p) (lastK p) v) (hz:¬er=0→v=zeroV) (hl:LenT reachBytes t) (hn:nodes t≤1000) (hr:RdT w w.heap.size t ⟨Ae,ne,ce⟩ ⟨Ak,nk,ck⟩) (hn2:nodes t≤240) (hpn:pn≤900) (hrp:Rd w w.heap.size 1 PA pn pc (Tr.strs p)) (hvl:v.l.length≤990) :
  Calls Tryz.prog 24 #[.agg #[.slice Ae ne ce,.slice Ak nk ck],.slice PA pn pc] w (ViewIs v er w):=by
 obtain⟨W,p9,r,HW,HP,HR0,HKc,HKR,HFR⟩:=boxTV w Ae Ak ne nk ce ck
 have hwr:w.heap.size≤r:=by have:=HP.out;have:=HR0.out;omega
 have hpr:p9<r:=by have:=HP.out;have:=HR0.out;omega
 have R:=Lib.hid (RdT.later hr HKc.out.below);have RP:=Lib.hid (hrp.later HKc.out.below);have HLP:=Lib.hid (rd_len1 hrp);have N:=Lib.hid (And.intro hn (And.intro hpn hl));have HER:=Lib.hid her;have HV:=Lib.hid hv;have HZV:=Lib.hid hz;have HVL:=Lib.hid hvl;have N2:=Lib.hid hn2;obtain⟨y1,hy1⟩:∃ y,Tr.rightB 5 t=y:=⟨_,rfl⟩;obtain⟨e0,he0⟩:∃ x,pathE p=x:=⟨_,rfl⟩;have HY1:=Lib.hid hy1;have HE0:=Lib.hid he0;clear hl hn hn2 hr hrp hpn her hv hz hvl hy1 he0;have c0:=HKc.out.c0;have c1:=HKc.out.c1;go_enter Tryz.func24,Tryz.ntmps24;go_wp2_with fail;rw[← HW.out,← HP.out]
 try rw[← HR0.out]
 refine (refrightT_any t Ae Ak ne nk ce ck W N.out.2.2 R.out).mono ?_;rw[HY1.out];rintro e v1 ⟨rfl,hb9⟩;have HKc:=Lib.hid (HKc.out.later hb9);have R:=Lib.hid (RdT.later R.out hb9);have RP:=Lib.hid (RP.out.later hb9);have HKR:=Lib.hid (HKR.out.later hb9);have HFR:=Lib.hid (HFR.out.later hb9);clear hb9;clear c0 c1
 cases y1 with
 | false=>
  have hz1:1=er:=by
   rw[← HER.out];unfold readE;rw[if_pos HY1.out]
  subst hz1;obtain⟨z0,z1,z2,z3,-⟩:=HKR.out.cj;have m0:=HFR.out.2 0;have m1:=HFR.out.2 1;have m2:=HFR.out.2 2;have m3:=HFR.out.2 3;obtain⟨W9,hW9⟩:∃ W,W=(((v1.setCell ⟨r,0,none⟩ (.int .i64 0)).setCell ⟨r,1,none⟩ (.bool false)).setCell ⟨r,2,none⟩ (.int .i64 0)).setCell ⟨r,3,none⟩ (.slice none 0 0):=⟨_,rfl⟩
  have HB9:Hid (Below w.heap.size w W9):=by
   unfold Hid;rw[hW9];exact (((HKc.out.below.setCell (p:=⟨r,0,none⟩) hwr _).setCell (p:=⟨r,1,none⟩) hwr _).setCell (p:=⟨r,2,none⟩) hwr _).setCell (p:=⟨r,3,none⟩) hwr _
  have l0:W9.cell? ⟨r,0,none⟩=some (.int .i64 0):=by rw[hW9];go_simp
  have l1:W9.cell? ⟨r,1,none⟩=some (.bool false):=by rw[hW9];go_simp
  have l2:W9.cell? ⟨r,2,none⟩=some (.int .i64 0):=by rw[hW9];go_simp
  have l3:W9.cell? ⟨r,3,none⟩=some (.slice none 0 0):=by rw[hW9];go_simp
  have HW9:=Lib.hid hW9;clear hW9;go_wp2_with fail;rw[← HW9.out];refine bodyPost_ret (v:=.tuple #[.agg #[.int .i64 0,.bool false,.int .i64 0,.slice none 0 0],.int .i64 1]) (by simp[results,Tryz.results24,go_sem,l0,l1,l2,l3]) rfl ?_;obtain rfl:v=zeroV:=HZV.out (by omega);exact⟨none,0,rfl,Rd.nil _,HB9.out⟩
 | true=>
  have HNT:Hid (¬Tr.rightB 5 t=false):=by unfold Hid;rw[HY1.out];decide
  have c0:=HKc.out.c0;have c1:=HKc.out.c1;go_wp2_with fail;refine (refpath_any p pn PA pc v1 e0 HE0.out (by have:=N.out;omega) RP.out).mono ?_;rintro e v2 ⟨rfl,hb9⟩;have HKc:=Lib.hid (HKc.out.later hb9);have R:=Lib.hid (RdT.later R.out hb9);have RP:=Lib.hid (RP.out.later hb9);have HKR:=Lib.hid (HKR.out.later hb9);have HFR:=Lib.hid (HFR.out.later hb9);clear hb9;clear c0 c1
  by_cases hz0:e0=0
  ·subst hz0
   have hz1:0=er:=by
    rw[← HER.out];unfold readE;rw[if_neg HNT.out];exact HE0.out.symm
   subst hz1;have HOK:Hid (PathOk p):=pathE_zero.1 HE0.out;have HT:Hid (RightT 5 t):=Tr.rightB_iff.1 HY1.out;have HTG:=Lib.hid (getT_right HT.out p);have HNG:Hid (nodes (getT t p)≤1000):=Nat.le_trans (nodes_getT t p) N.out.1;have HNG2:Hid (nodes (getT t p)≤240):=Nat.le_trans (nodes_getT t p) N2.out;have HRD:=Lib.hid (HV.out rfl);obtain⟨x,hx⟩:∃ x,x=getT t p:=⟨_,rfl⟩;obtain⟨kd,hkd⟩:∃ k,k=lastK p:=⟨_,rfl⟩;rw[← hx]at HTG HNG HNG2 HRD;rw[← hkd]at HRD;have HX:=Lib.hid hx
   obtain⟨mm,hmm⟩:∃ mm,pn=mm+1:=⟨pn-1,by
    have h:=HLP.out;have h2:0<p.length:=List.length_pos_iff.2 HOK.out.some
    omega⟩
   subst hmm
   have HKD5:Hid (1≤kd∧kd≤5):=by unfold Hid;rw[hkd];exact path_last HOK.out HLP.out
   have HKDL:=Lib.hid hkd;clear hx hkd;have c0:=HKc.out.c0;have c1:=HKc.out.c1;go_wp2_with fail;refine (refget_any 4 t Ae Ak ne nk ce ck v2 p PA (mm+1) pc HLP.out (by have:=N.out;omega) RP.out HT.out (by have:=N.out;omega) R.out).mono ?_;rintro e v3 ⟨Ge,gn,gc,Gk,gm,gd,rfl,ho,hb9⟩
   have RG:Hid (RdT v3 v3.heap.size x ⟨Ge,gn,gc⟩ ⟨Gk,gm,gd⟩):=by unfold Hid;rw[HX.out];exact ho.rd
   clear ho;have HKc:=Lib.hid (HKc.out.later hb9);have R:=Lib.hid (RdT.later R.out hb9);have RP:=Lib.hid (RP.out.later hb9);have HKR:=Lib.hid (HKR.out.later hb9);have HFR:=Lib.hid (HFR.out.later hb9);clear hb9;clear c0 c1
   have HGN:Hid (x.es.length=gn∧x.ks.length=gm):=by
    have h:=RG.out;rw[← T.eta x]at h;exact rd_lens h
   obtain⟨b,hb⟩:∃ g,g=v3.heap.size:=⟨_,rfl⟩;obtain⟨v4,hv4⟩:∃ W,W=v3.alloc (.cells #[.slice Ge gn gc,.slice Gk gm gd] 35):=⟨_,rfl⟩
   have hb9:Below v3.heap.size v3 v4:=by rw[hv4];exact Dt.box_below _ _ _
   have b0:v4.cell? ⟨b,0,none⟩=some (.slice Ge gn gc):=by rw[hv4,hb];go_simp
   have b1:v4.cell? ⟨b,1,none⟩=some (.slice Gk gm gd):=by rw[hv4,hb];go_simp
   have HKc:=Lib.hid (HKc.out.later hb9);have R:=Lib.hid (RdT.later R.out hb9);have RP:=Lib.hid (RP.out.later hb9);have HKR:=Lib.hid (HKR.out.later hb9);have HFR:=Lib.hid (HFR.out.later hb9);have RG:=Lib.hid (RdT.later RG.out hb9);clear hb9;have HKc:=Lib.hid ((HKc.out.cons_of b1).cons_of b0);have Hb:=Lib.hid hb;have Hv4:=Lib.hid hv4;clear hb hv4 b0 b1
   have hkl0:mm<p.length:=by have:=HLP.out;omega
   obtain⟨bp,op,rfl,hgp,hcp⟩:=rd_text RP.out (by omega);have q0:=hcp mm hkl0
   have hkk:kindK p[mm]=kd:=by rw[HKDL.out];exact (lastK_get hkl0 HLP.out).symm
   obtain⟨kk,hk9⟩:∃ k,k=p[mm]:=⟨_,rfl⟩;rw[← hk9]at q0 hkk;have HKK:=Lib.hid hkk
   have fw:IntKind.i64.wrap (mm:Int)=(mm:Int):=by have:=N.out;rw[IntKind.wrap_i64];omega
   have fx:IntKind.i64.wrap ((mm:Int)+1-1)=(mm:Int):=by have:=N.out;rw[IntKind.wrap_i64];omega
   have fy:(mm:Int)<(mm:Int)+1:=by omega
   rw[Hv4.out]at q0;clear hcp hkk hk9 hkl0 hgp;obtain⟨c0,c1,c2,c3,-⟩:=HKc.out.cj;rw[Hv4.out]at c0 c1 c2 c3;rw[Hb.out]at c0 c1;go_wp2_with fail;rw[← Hb.out,← Hv4.out];refine (refkind_any kk v4).mono ?_;rw[HKK.out];rintro e v5 ⟨rfl,hb9⟩;have HKc:=Lib.hid (HKc.out.later hb9);have R:=Lib.hid (RdT.later R.out hb9);have RP:=Lib.hid (RP.out.later hb9);have HKR:=Lib.hid (HKR.out.later hb9);have HFR:=Lib.hid (HFR.out.later hb9);have RG:=Lib.hid (RdT.later RG.out hb9);clear hb9;clear c0 c1 c2 c3;clear q0 fw fx fy;have hk5:=HKD5.out
   have hk6:kd=1∨kd=2∨kd=3∨kd=4∨kd=5:=by omega
   clear hk5
   rcases hk6 with rfl | rfl | rfl | rfl | rfl
   ·have hon:v.on=decide (0<gn):=by
     rw[HRD.out.on,HGN.out.1];exact decide_eq_decide.2 ⟨fun h=>h.2,fun h=>⟨rfl,h⟩⟩
    have hkd:v.kd=1:=HRD.out.kd
    have hnn:v.n=0:=by rw[HRD.out.n];exact if_neg (by decide)
    have hll:v.l=[]:=HRD.out.l0 (by omega);obtain⟨von,hvon⟩:∃ b,b=decide (0<gn):=⟨_,rfl⟩
    have f1:decide ((0:Int)<(gn:Int))=von:=by rw[hvon];exact decide_eq_decide.2 (by omega)
    have f2:decide (0<gn)=von:=hvon.symm
    have HVV:Hid (v=⟨1,von,0,[]⟩):=by
     obtain⟨a1,a2,a3,a4⟩:=v;dsimp only at hon hkd hnn hll;unfold Hid;rw[hkd,hon,hnn,hll,hvon]
    clear hon hkd hnn hll hvon;obtain⟨o0,o1,o2,o3,-⟩:=HKc.out.cj;have n0:=(HKc.out.alloc (.cells #[.int .i64 1,.bool false,.int .i64 0,.slice none 0 0] 51)).c0;have n1:=(HKc.out.alloc (.cells #[.int .i64 1,.bool false,.int .i64 0,.slice none 0 0] 51)).c1;have n2:=(HKc.out.alloc (.cells #[.int .i64 1,.bool false,.int .i64 0,.slice none 0 0] 51)).c2;have n3:=(HKc.out.alloc (.cells #[.int .i64 1,.bool false,.int .i64 0,.slice none 0 0] 51)).c3;have z0:=(HKR.out.alloc (.cells #[.int .i64 1,.bool false,.int .i64 0,.slice none 0 0] 51)).c0;have z1:=(HKR.out.alloc (.cells #[.int .i64 1,.bool false,.int .i64 0,.slice none 0 0] 51)).c1;have z2:=(HKR.out.alloc (.cells #[.int .i64 1,.bool false,.int .i64 0,.slice none 0 0] 51)).c2
    have z3:=(HKR.out.alloc (.cells #[.int .i64 1,.bool false,.int .i64 0,.slice none 0 0] 51)).c3;clear z0 z1 z2 z3;obtain⟨vb,hvb⟩:∃ g,g=v5.heap.size:=⟨_,rfl⟩;obtain⟨v6,hv6⟩:∃ W,W=v5.alloc (.cells #[.int .i64 1,.bool von,.int .i64 0,.slice none 0 0] 51):=⟨_,rfl⟩
    have hb9:Below v5.heap.size v5 v6:=by rw[hv6];exact Dt.box_below _ _ _
    have b0:v6.cell? ⟨vb,0,none⟩=some (.int .i64 1):=by rw[hv6,hvb];go_simp
    have b1:v6.cell? ⟨vb,1,none⟩=some (.bool von):=by rw[hv6,hvb];go_simp
    have b2:v6.cell? ⟨vb,2,none⟩=some (.int .i64 0):=by rw[hv6,hvb];go_simp
    have b3:v6.cell? ⟨vb,3,none⟩=some (.slice none 0 0):=by rw[hv6,hvb];go_simp
    have HKc:=Lib.hid (HKc.out.later hb9);have R:=Lib.hid (RdT.later R.out hb9);have RP:=Lib.hid (RP.out.later hb9);have HKR:=Lib.hid (HKR.out.later hb9);have HFR:=Lib.hid (HFR.out.later hb9);have RG:=Lib.hid (RdT.later RG.out hb9);clear hb9;have HKc:=Lib.hid ((((HKc.out.cons_of b3).cons_of b2).cons_of b1).cons_of b0);have Hvb:=Lib.hid hvb;have Hv6:=Lib.hid hv6;clear hvb hv6 b0 b1 b2 b3;obtain⟨c0,c1,c2,c3,c4,c5,c6,c7,-⟩:=HKc.out.cj;rw[Hv6.out]at c0 c1 c2 c3 c4 c5 c6 c7;rw[Hvb.out]at c0 c1 c2 c3;obtain⟨z0,z1,z2,z3,-⟩:=HKR.out.cj;have m0:=HFR.out.2 0;have m1:=HFR.out.2 1;have m2:=HFR.out.2 2;have m3:=HFR.out.2 3;obtain⟨W9,hW9⟩:∃ W,W=(((v6.setCell ⟨r,0,none⟩ (.int .i64 1)).setCell ⟨r,1,none⟩ (.bool von)).setCell ⟨r,2,none⟩ (.int .i64 0)).setCell ⟨r,3,none⟩ (.slice none 0 0):=⟨_,rfl⟩
    have HB9:Hid (Below w.heap.size w W9):=by
     unfold Hid;rw[hW9];exact (((HKc.out.below.setCell (p:=⟨r,0,none⟩) hwr _).setCell (p:=⟨r,1,none⟩) hwr _).setCell (p:=⟨r,2,none⟩) hwr _).setCell (p:=⟨r,3,none⟩) hwr _
    have l0:W9.cell? ⟨r,0,none⟩=some (.int .i64 1):=by rw[hW9];go_simp
    have l1:W9.cell? ⟨r,1,none⟩=some (.bool von):=by rw[hW9];go_simp
    have l2:W9.cell? ⟨r,2,none⟩=some (.int .i64 0):=by rw[hW9];go_simp
    have l3:W9.cell? ⟨r,3,none⟩=some (.slice none 0 0):=by rw[hW9];go_simp
    have HW9:=Lib.hid hW9;clear hW9;rw[Hv6.out]at z0 z1 z2 z3 m0 m1 m2 m3;go_wp2_with fail;rw[← Hvb.out,← Hv6.out];rw[← HW9.out];refine bodyPost_ret (v:=.tuple #[.agg #[.int .i64 1,.bool von,.int .i64 0,.slice none 0 0],.int .i64 0]) (by simp[results,Tryz.results24,go_sem,l0,l1,l2,l3]) rfl ?_;obtain rfl:=HVV.out;exact⟨none,0,rfl,Rd.nil _,HB9.out⟩
   ·have HVV:Hid (v=⟨2,false,0,elemsT x⟩):=by
     have h1:v.kd=2:=HRD.out.kd
     have h2:v.on=false:=by rw[HRD.out.on];exact decide_eq_false fun h=>by omega
     have h3:=HRD.out.n;have h4:=HRD.out;obtain⟨a1,a2,a3,a4⟩:=v;dsimp only at h1 h2 h3;unfold Hid;rw[h1,h2,h3];rw[if_neg (by decide),← h4.l2 rfl]
    have hws:w.heap.size≤v5.heap.size∧r<v5.heap.size:=⟨HKc.out.below.size,HFR.out.1⟩;obtain⟨o0,o1,o2,o3,-⟩:=HKc.out.cj;obtain⟨vb,hvb⟩:∃ g,g=v5.heap.size:=⟨_,rfl⟩;obtain⟨v6,hv6⟩:∃ W,W=v5.alloc (.cells #[.int .i64 2,.bool false,.int .i64 0,.slice none 0 0] 51):=⟨_,rfl⟩
    have hb9:Below v5.heap.size v5 v6:=by rw[hv6];exact Dt.box_below _ _ _
    have b0:v6.cell? ⟨vb,0,none⟩=some (.int .i64 2):=by rw[hv6,hvb];go_simp
    have b1:v6.cell? ⟨vb,1,none⟩=some (.bool false):=by rw[hv6,hvb];go_simp
    have b2:v6.cell? ⟨vb,2,none⟩=some (.int .i64 0):=by rw[hv6,hvb];go_simp
    have b3:v6.cell? ⟨vb,3,none⟩=some (.slice none 0 0):=by rw[hv6,hvb];go_simp
    have HKc:=Lib.hid (HKc.out.later hb9);have R:=Lib.hid (RdT.later R.out hb9);have RP:=Lib.hid (RP.out.later hb9);have HKR:=Lib.hid (HKR.out.later hb9);have HFR:=Lib.hid (HFR.out.later hb9);have RG:=Lib.hid (RdT.later RG.out hb9);clear hb9;have HKc:=Lib.hid ((((HKc.out.cons_of b3).cons_of b2).cons_of b1).cons_of b0);have Hvb:=Lib.hid hvb;have Hv6:=Lib.hid hv6;clear hvb hv6 b0 b1 b2 b3;have hbl:vb<v6.heap.size:=World.block_lt_of_cell? _ _ HKc.out.c0;have HFVB:Hid (Free vb v6):=⟨hbl,fun j=>by rw[Hv6.out,Hvb.out];go_simp⟩
    have HWV:Hid (w.heap.size≤vb∧r<vb):=by unfold Hid;rw[Hvb.out];exact hws
    have HBV:Hid (r<v6.heap.size∧vb<v6.heap.size):=⟨HFR.out.1,hbl⟩;clear hbl hws;obtain⟨c0,c1,c2,c3,c4,c5,c6,c7,-⟩:=HKc.out.cj;rw[Hv6.out]at c0 c1 c2 c3 c4 c5 c6 c7;rw[Hvb.out]at c0 c1 c2 c3;go_wp2_with fail;rw[← Hvb.out,← Hv6.out];refine (refelems_own x Ge Gk gn gm gc gd v6 (LenT.few (by have:=HNG.out;omega)) HNG.out RG.out).mono ?_;rintro e v7 ⟨LA,lm,lc,rfl,hro,hb9⟩;have HOV:Hid (Own v7 v6.heap.size 9 1 LA lm lc (Tr.strs (elemsT x))):=hro.out;clear hro;have HKc:=Lib.hid (HKc.out.later hb9);have R:=Lib.hid (RdT.later R.out hb9);have RP:=Lib.hid (RP.out.later hb9);have HKR:=Lib.hid (HKR.out.later hb9);have HFR:=Lib.hid (HFR.out.later hb9);have RG:=Lib.hid (RdT.later RG.out hb9);have HFVB:=Lib.hid (HFVB.out.later hb9);clear hb9;clear c0 c1 c2 c3 c4 c5 c6 c7;clear o0 o1 o2 o3;have hwv:w.heap.size≤vb:=HWV.out.1
    have hrv:r<vb:=HWV.out.2;have k3:=HFVB.out.2 3;obtain⟨c0,c1,c2,c3,c4,c5,c6,c7,-⟩:=HKc.out.cj;obtain⟨z0,z1,z2,z3,-⟩:=HKR.out.cj;have m0:=HFR.out.2 0;have m1:=HFR.out.2 1;have m2:=HFR.out.2 2;have m3:=HFR.out.2 3;obtain⟨W9,hW9⟩:∃ W,W=((((v7.setCell ⟨vb,3,none⟩ (.slice LA lm lc)).setCell ⟨r,0,none⟩ (.int .i64 2)).setCell ⟨r,1,none⟩ (.bool false)).setCell ⟨r,2,none⟩ (.int .i64 0)).setCell ⟨r,3,none⟩ (.slice LA lm lc):=⟨_,rfl⟩
    have HB9:Hid (Below w.heap.size w W9):=by
     unfold Hid;rw[hW9];exact ((((HKc.out.below.setCell (p:=⟨vb,3,none⟩) hwv _).setCell (p:=⟨r,0,none⟩) hwr _).setCell (p:=⟨r,1,none⟩) hwr _).setCell (p:=⟨r,2,none⟩) hwr _).setCell (p:=⟨r,3,none⟩) hwr _
    have HR9:Hid (Rd W9 W9.heap.size 1 LA lm lc (Tr.strs (elemsT x))):=by
     unfold Hid;rw[hW9];exact (((((HOV.out.set_below (a:=⟨vb,3,none⟩) HBV.out.2 _).set_below (a:=⟨r,0,none⟩) HBV.out.1 _).set_below (a:=⟨r,1,none⟩) HBV.out.1 _).set_below (a:=⟨r,2,none⟩) HBV.out.1 _).set_below (a:=⟨r,3,none⟩) HBV.out.1 _).rd
    have HL9:=Lib.hid (rd_len1 HR9.out)
    have l0:W9.cell? ⟨r,0,none⟩=some (.int .i64 2):=by rw[hW9];go_simp
    have l1:W9.cell? ⟨r,1,none⟩=some (.bool false):=by rw[hW9];go_simp
    have l2:W9.cell? ⟨r,2,none⟩=some (.int .i64 0):=by rw[hW9];go_simp
    have l3:W9.cell? ⟨r,3,none⟩=some (.slice LA lm lc):=by rw[hW9];go_simp
    have HW9:=Lib.hid hW9;clear hW9;go_wp2_with fail;rw[← HW9.out];refine bodyPost_ret (v:=.tuple #[.agg #[.int .i64 2,.bool false,.int .i64 0,.slice LA lm lc],.int .i64 0]) (by simp[results,Tryz.results24,go_sem,l0,l1,l2,l3]) rfl ?_;rw[HVV.out];refine⟨LA,lc,?_,?_,HB9.out⟩
    ·dsimp only
     first | rfl | (rw[HL9.out];rfl)
    ·dsimp only
     first | exact HR9.out | (rw[HL9.out];exact HR9.out)
   ·have HVV:Hid (v=⟨3,false,sumE x.es,[]⟩):=by
     have h1:v.kd=3:=HRD.out.kd
     have h2:v.on=false:=by rw[HRD.out.on];exact decide_eq_false fun h=>by omega
     have h3:=HRD.out.n;have h4:=HRD.out;obtain⟨a1,a2,a3,a4⟩:=v;dsimp only at h1 h2 h3;unfold Hid;rw[h1,h2,h3];rw[if_pos rfl,← h4.l0 (by omega)]
    have hws:w.heap.size≤v5.heap.size∧r<v5.heap.size:=⟨HKc.out.below.size,HFR.out.1⟩;obtain⟨o0,o1,o2,o3,-⟩:=HKc.out.cj;obtain⟨vb,hvb⟩:∃ g,g=v5.heap.size:=⟨_,rfl⟩;obtain⟨v6,hv6⟩:∃ W,W=v5.alloc (.cells #[.int .i64 3,.bool false,.int .i64 0,.slice none 0 0] 51):=⟨_,rfl⟩
    have hb9:Below v5.heap.size v5 v6:=by rw[hv6];exact Dt.box_below _ _ _
    have b0:v6.cell? ⟨vb,0,none⟩=some (.int .i64 3):=by rw[hv6,hvb];go_simp
    have b1:v6.cell? ⟨vb,1,none⟩=some (.bool false):=by rw[hv6,hvb];go_simp
    have b2:v6.cell? ⟨vb,2,none⟩=some (.int .i64 0):=by rw[hv6,hvb];go_simp
    have b3:v6.cell? ⟨vb,3,none⟩=some (.slice none 0 0):=by rw[hv6,hvb];go_simp
    have HKc:=Lib.hid (HKc.out.later hb9);have R:=Lib.hid (RdT.later R.out hb9);have RP:=Lib.hid (RP.out.later hb9);have HKR:=Lib.hid (HKR.out.later hb9);have HFR:=Lib.hid (HFR.out.later hb9);have RG:=Lib.hid (RdT.later RG.out hb9);clear hb9;have HKc:=Lib.hid ((((HKc.out.cons_of b3).cons_of b2).cons_of b1).cons_of b0);have Hvb:=Lib.hid hvb;have Hv6:=Lib.hid hv6;clear hvb hv6 b0 b1 b2 b3;have hbl:vb<v6.heap.size:=World.block_lt_of_cell? _ _ HKc.out.c0;have HFVB:Hid (Free vb v6):=⟨hbl,fun j=>by rw[Hv6.out,Hvb.out];go_simp⟩
    have HWV:Hid (w.heap.size≤vb∧r<vb):=by unfold Hid;rw[Hvb.out];exact hws
    have HBV:Hid (r<v6.heap.size∧vb<v6.heap.size):=⟨HFR.out.1,hbl⟩;clear hbl hws;obtain⟨c0,c1,c2,c3,c4,c5,c6,c7,-⟩:=HKc.out.cj;rw[Hv6.out]at c0 c1 c2 c3 c4 c5 c6 c7;rw[Hvb.out]at c0 c1 c2 c3;go_wp2_with fail;rw[← Hvb.out,← Hv6.out];refine (refsum_any x Ge Gk gn gm gc gd v6 (sumE x.es) HTG.out rfl (by have:=HNG2.out;omega) RG.out).mono ?_;rintro e v7 ⟨rfl,hb9⟩;have HKc:=Lib.hid (HKc.out.later hb9);have R:=Lib.hid (RdT.later R.out hb9);have RP:=Lib.hid (RP.out.later hb9);have HKR:=Lib.hid (HKR.out.later hb9);have HFR:=Lib.hid (HFR.out.later hb9);have RG:=Lib.hid (RdT.later RG.out hb9);have HFVB:=Lib.hid (HFVB.out.later hb9);clear hb9;clear c0 c1 c2 c3 c4 c5 c6 c7;clear o0 o1 o2 o3;have hwv:w.heap.size≤vb:=HWV.out.1;have hrv:r<vb:=HWV.out.2;have k2:=HFVB.out.2 2;obtain⟨c0,c1,c2,c3,c4,c5,c6,c7,-⟩:=HKc.out.cj
    obtain⟨z0,z1,z2,z3,-⟩:=HKR.out.cj;have m0:=HFR.out.2 0;have m1:=HFR.out.2 1;have m2:=HFR.out.2 2;have m3:=HFR.out.2 3;obtain⟨W9,hW9⟩:∃ W,W=((((v7.setCell ⟨vb,2,none⟩ (.int .i64 (sumE x.es))).setCell ⟨r,0,none⟩ (.int .i64 3)).setCell ⟨r,1,none⟩ (.bool false)).setCell ⟨r,2,none⟩ (.int .i64 (sumE x.es))).setCell ⟨r,3,none⟩ (.slice none 0 0):=⟨_,rfl⟩
    have HB9:Hid (Below w.heap.size w W9):=by
     unfold Hid;rw[hW9];exact ((((HKc.out.below.setCell (p:=⟨vb,2,none⟩) hwv _).setCell (p:=⟨r,0,none⟩) hwr _).setCell (p:=⟨r,1,none⟩) hwr _).setCell (p:=⟨r,2,none⟩) hwr _).setCell (p:=⟨r,3,none⟩) hwr _
    have l0:W9.cell? ⟨r,0,none⟩=some (.int .i64 3):=by rw[hW9];go_simp
    have l1:W9.cell? ⟨r,1,none⟩=some (.bool false):=by rw[hW9];go_simp
    have l2:W9.cell? ⟨r,2,none⟩=some (.int .i64 (sumE x.es)):=by rw[hW9];go_simp
    have l3:W9.cell? ⟨r,3,none⟩=some (.slice none 0 0):=by rw[hW9];go_simp
    have HW9:=Lib.hid hW9;clear hW9;go_wp2_with fail;rw[← HW9.out];refine bodyPost_ret (v:=.tuple #[.agg #[.int .i64 3,.bool false,.int .i64 (sumE x.es),.slice none 0 0],.int .i64 0]) (by simp[results,Tryz.results24,go_sem,l0,l1,l2,l3]) rfl ?_;rw[HVV.out];exact⟨none,0,rfl,Rd.nil _,HB9.out⟩
   ·have HVV:Hid (v=⟨4,false,0,v.l⟩):=by
     have h1:v.kd=4:=HRD.out.kd
     have h2:v.on=false:=by rw[HRD.out.on];exact decide_eq_false fun h=>by omega
     have h3:=HRD.out.n;have h4:=HRD.out;obtain⟨a1,a2,a3,a4⟩:=v;dsimp only at h1 h2 h3;unfold Hid;rw[h1,h2,h3];rw[if_neg (by decide)]
    have hws:w.heap.size≤v5.heap.size∧r<v5.heap.size:=⟨HKc.out.below.size,HFR.out.1⟩;obtain⟨o0,o1,o2,o3,-⟩:=HKc.out.cj;obtain⟨vb,hvb⟩:∃ g,g=v5.heap.size:=⟨_,rfl⟩;obtain⟨v6,hv6⟩:∃ W,W=v5.alloc (.cells #[.int .i64 4,.bool false,.int .i64 0,.slice none 0 0] 51):=⟨_,rfl⟩
    have hb9:Below v5.heap.size v5 v6:=by rw[hv6];exact Dt.box_below _ _ _
    have b0:v6.cell? ⟨vb,0,none⟩=some (.int .i64 4):=by rw[hv6,hvb];go_simp
    have b1:v6.cell? ⟨vb,1,none⟩=some (.bool false):=by rw[hv6,hvb];go_simp
    have b2:v6.cell? ⟨vb,2,none⟩=some (.int .i64 0):=by rw[hv6,hvb];go_simp
    have b3:v6.cell? ⟨vb,3,none⟩=some (.slice none 0 0):=by rw[hv6,hvb];go_simp
    have HKc:=Lib.hid (HKc.out.later hb9);have R:=Lib.hid (RdT.later R.out hb9);have RP:=Lib.hid (RP.out.later hb9);have HKR:=Lib.hid (HKR.out.later hb9);have HFR:=Lib.hid (HFR.out.later hb9);have RG:=Lib.hid (RdT.later RG.out hb9);clear hb9;have HKc:=Lib.hid ((((HKc.out.cons_of b3).cons_of b2).cons_of b1).cons_of b0);have Hvb:=Lib.hid hvb;have Hv6:=Lib.hid hv6;clear hvb hv6 b0 b1 b2 b3;have hbl:vb<v6.heap.size:=World.block_lt_of_cell? _ _ HKc.out.c0;have HFVB:Hid (Free vb v6):=⟨hbl,fun j=>by rw[Hv6.out,Hvb.out];go_simp⟩
    have HWV:Hid (w.heap.size≤vb∧r<vb):=by unfold Hid;rw[Hvb.out];exact hws
    have HBV:Hid (r<v6.heap.size∧vb<v6.heap.size):=⟨HFR.out.1,hbl⟩;clear hbl hws;obtain⟨c0,c1,c2,c3,c4,c5,c6,c7,-⟩:=HKc.out.cj;rw[Hv6.out]at c0 c1 c2 c3 c4 c5 c6 c7;rw[Hvb.out]at c0 c1 c2 c3;go_wp2_with fail;rw[← Hvb.out,← Hv6.out];refine (reftexts_own x Ge Gk gn gm gc gd v6 v.l v.l.length HNG.out RG.out (HRD.out.l4 rfl) rfl (by have:=HVL.out;omega)).mono ?_;rintro e v7 ⟨LA,lc,rfl,hro,hb9⟩;have HOV:Hid (Own v7 v6.heap.size 9 1 LA v.l.length lc (Tr.strs (v.l))):=hro.out;clear hro;have HKc:=Lib.hid (HKc.out.later hb9);have R:=Lib.hid (RdT.later R.out hb9);have RP:=Lib.hid (RP.out.later hb9);have HKR:=Lib.hid (HKR.out.later hb9);have HFR:=Lib.hid (HFR.out.later hb9);have RG:=Lib.hid (RdT.later RG.out hb9);have HFVB:=Lib.hid (HFVB.out.later hb9);clear hb9;clear c0 c1 c2 c3 c4 c5 c6 c7;clear o0 o1 o2 o3;have hwv:w.heap.size≤vb:=HWV.out.1
    have hrv:r<vb:=HWV.out.2;have k3:=HFVB.out.2 3;obtain⟨c0,c1,c2,c3,c4,c5,c6,c7,-⟩:=HKc.out.cj;obtain⟨z0,z1,z2,z3,-⟩:=HKR.out.cj;have m0:=HFR.out.2 0;have m1:=HFR.out.2 1;have m2:=HFR.out.2 2;have m3:=HFR.out.2 3;obtain⟨W9,hW9⟩:∃ W,W=((((v7.setCell ⟨vb,3,none⟩ (.slice LA v.l.length lc)).setCell ⟨r,0,none⟩ (.int .i64 4)).setCell ⟨r,1,none⟩ (.bool false)).setCell ⟨r,2,none⟩ (.int .i64 0)).setCell ⟨r,3,none⟩ (.slice LA v.l.length lc):=⟨_,rfl⟩
    have HB9:Hid (Below w.heap.size w W9):=by
     unfold Hid;rw[hW9];exact ((((HKc.out.below.setCell (p:=⟨vb,3,none⟩) hwv _).setCell (p:=⟨r,0,none⟩) hwr _).setCell (p:=⟨r,1,none⟩) hwr _).setCell (p:=⟨r,2,none⟩) hwr _).setCell (p:=⟨r,3,none⟩) hwr _
    have HR9:Hid (Rd W9 W9.heap.size 1 LA v.l.length lc (Tr.strs (v.l))):=by
     unfold Hid;rw[hW9];exact (((((HOV.out.set_below (a:=⟨vb,3,none⟩) HBV.out.2 _).set_below (a:=⟨r,0,none⟩) HBV.out.1 _).set_below (a:=⟨r,1,none⟩) HBV.out.1 _).set_below (a:=⟨r,2,none⟩) HBV.out.1 _).set_below (a:=⟨r,3,none⟩) HBV.out.1 _).rd
    have HL9:=Lib.hid (rd_len1 HR9.out)
    have l0:W9.cell? ⟨r,0,none⟩=some (.int .i64 4):=by rw[hW9];go_simp
    have l1:W9.cell? ⟨r,1,none⟩=some (.bool false):=by rw[hW9];go_simp
    have l2:W9.cell? ⟨r,2,none⟩=some (.int .i64 0):=by rw[hW9];go_simp
    have l3:W9.cell? ⟨r,3,none⟩=some (.slice LA v.l.length lc):=by rw[hW9];go_simp
    have HW9:=Lib.hid hW9;clear hW9;go_wp2_with fail;rw[← HW9.out];refine bodyPost_ret (v:=.tuple #[.agg #[.int .i64 4,.bool false,.int .i64 0,.slice LA v.l.length lc],.int .i64 0]) (by simp[results,Tryz.results24,go_sem,l0,l1,l2,l3]) rfl ?_;rw[HVV.out];refine⟨LA,lc,?_,?_,HB9.out⟩
    ·dsimp only
     first | rfl | (rw[HL9.out];rfl)
    ·dsimp only
     first | exact HR9.out | (rw[HL9.out];exact HR9.out)
   ·have HVV:Hid (v=⟨5,false,0,keysOf x.ks⟩):=by
     have h1:v.kd=5:=HRD.out.kd
     have h2:v.on=false:=by rw[HRD.out.on];exact decide_eq_false fun h=>by omega
     have h3:=HRD.out.n;have h4:=HRD.out;obtain⟨a1,a2,a3,a4⟩:=v;dsimp only at h1 h2 h3;unfold Hid;rw[h1,h2,h3];rw[if_neg (by decide),← h4.l5 rfl]
    have hws:w.heap.size≤v5.heap.size∧r<v5.heap.size:=⟨HKc.out.below.size,HFR.out.1⟩;obtain⟨o0,o1,o2,o3,-⟩:=HKc.out.cj;obtain⟨vb,hvb⟩:∃ g,g=v5.heap.size:=⟨_,rfl⟩;obtain⟨v6,hv6⟩:∃ W,W=v5.alloc (.cells #[.int .i64 5,.bool false,.int .i64 0,.slice none 0 0] 51):=⟨_,rfl⟩
    have hb9:Below v5.heap.size v5 v6:=by rw[hv6];exact Dt.box_below _ _ _
    have b0:v6.cell? ⟨vb,0,none⟩=some (.int .i64 5):=by rw[hv6,hvb];go_simp
    have b1:v6.cell? ⟨vb,1,none⟩=some (.bool false):=by rw[hv6,hvb];go_simp
    have b2:v6.cell? ⟨vb,2,none⟩=some (.int .i64 0):=by rw[hv6,hvb];go_simp
    have b3:v6.cell? ⟨vb,3,none⟩=some (.slice none 0 0):=by rw[hv6,hvb];go_simp
    have HKc:=Lib.hid (HKc.out.later hb9);have R:=Lib.hid (RdT.later R.out hb9);have RP:=Lib.hid (RP.out.later hb9);have HKR:=Lib.hid (HKR.out.later hb9);have HFR:=Lib.hid (HFR.out.later hb9);have RG:=Lib.hid (RdT.later RG.out hb9);clear hb9;have HKc:=Lib.hid ((((HKc.out.cons_of b3).cons_of b2).cons_of b1).cons_of b0);have Hvb:=Lib.hid hvb;have Hv6:=Lib.hid hv6;clear hvb hv6 b0 b1 b2 b3;have hbl:vb<v6.heap.size:=World.block_lt_of_cell? _ _ HKc.out.c0;have HFVB:Hid (Free vb v6):=⟨hbl,fun j=>by rw[Hv6.out,Hvb.out];go_simp⟩
    have HWV:Hid (w.heap.size≤vb∧r<vb):=by unfold Hid;rw[Hvb.out];exact hws
    have HBV:Hid (r<v6.heap.size∧vb<v6.heap.size):=⟨HFR.out.1,hbl⟩;clear hbl hws;obtain⟨c0,c1,c2,c3,c4,c5,c6,c7,-⟩:=HKc.out.cj;rw[Hv6.out]at c0 c1 c2 c3 c4 c5 c6 c7;rw[Hvb.out]at c0 c1 c2 c3;go_wp2_with fail;rw[← Hvb.out,← Hv6.out];refine (refkeys_own x Ge Gk gn gm gc gd v6 HNG.out RG.out).mono ?_;rintro e v7 ⟨LA,lc,rfl,hro,hb9⟩;have HOV:Hid (Own v7 v6.heap.size 9 1 LA gm lc (Tr.strs (keysOf x.ks))):=hro.out;clear hro;have HKc:=Lib.hid (HKc.out.later hb9);have R:=Lib.hid (RdT.later R.out hb9);have RP:=Lib.hid (RP.out.later hb9);have HKR:=Lib.hid (HKR.out.later hb9);have HFR:=Lib.hid (HFR.out.later hb9);have RG:=Lib.hid (RdT.later RG.out hb9);have HFVB:=Lib.hid (HFVB.out.later hb9);clear hb9;clear c0 c1 c2 c3 c4 c5 c6 c7;clear o0 o1 o2 o3;have hwv:w.heap.size≤vb:=HWV.out.1;have hrv:r<vb:=HWV.out.2
    have k3:=HFVB.out.2 3;obtain⟨c0,c1,c2,c3,c4,c5,c6,c7,-⟩:=HKc.out.cj;obtain⟨z0,z1,z2,z3,-⟩:=HKR.out.cj;have m0:=HFR.out.2 0;have m1:=HFR.out.2 1;have m2:=HFR.out.2 2;have m3:=HFR.out.2 3;obtain⟨W9,hW9⟩:∃ W,W=((((v7.setCell ⟨vb,3,none⟩ (.slice LA gm lc)).setCell ⟨r,0,none⟩ (.int .i64 5)).setCell ⟨r,1,none⟩ (.bool false)).setCell ⟨r,2,none⟩ (.int .i64 0)).setCell ⟨r,3,none⟩ (.slice LA gm lc):=⟨_,rfl⟩
    have HB9:Hid (Below w.heap.size w W9):=by
     unfold Hid;rw[hW9];exact ((((HKc.out.below.setCell (p:=⟨vb,3,none⟩) hwv _).setCell (p:=⟨r,0,none⟩) hwr _).setCell (p:=⟨r,1,none⟩) hwr _).setCell (p:=⟨r,2,none⟩) hwr _).setCell (p:=⟨r,3,none⟩) hwr _
    have HR9:Hid (Rd W9 W9.heap.size 1 LA gm lc (Tr.strs (keysOf x.ks))):=by
     unfold Hid;rw[hW9];exact (((((HOV.out.set_below (a:=⟨vb,3,none⟩) HBV.out.2 _).set_below (a:=⟨r,0,none⟩) HBV.out.1 _).set_below (a:=⟨r,1,none⟩) HBV.out.1 _).set_below (a:=⟨r,2,none⟩) HBV.out.1 _).set_below (a:=⟨r,3,none⟩) HBV.out.1 _).rd
    have HL9:=Lib.hid (rd_len1 HR9.out)
    have l0:W9.cell? ⟨r,0,none⟩=some (.int .i64 5):=by rw[hW9];go_simp
    have l1:W9.cell? ⟨r,1,none⟩=some (.bool false):=by rw[hW9];go_simp
    have l2:W9.cell? ⟨r,2,none⟩=some (.int .i64 0):=by rw[hW9];go_simp
    have l3:W9.cell? ⟨r,3,none⟩=some (.slice LA gm lc):=by rw[hW9];go_simp
    have HW9:=Lib.hid hW9;clear hW9;go_wp2_with fail;rw[← HW9.out];refine bodyPost_ret (v:=.tuple #[.agg #[.int .i64 5,.bool false,.int .i64 0,.slice LA gm lc],.int .i64 0]) (by simp[results,Tryz.results24,go_sem,l0,l1,l2,l3]) rfl ?_;rw[HVV.out];refine⟨LA,lc,?_,?_,HB9.out⟩
    ·dsimp only
     first | rfl | (rw[HL9.out];rfl)
    ·dsimp only
     first | exact HR9.out | (rw[HL9.out];exact HR9.out)
  ·have HNE:Hid (¬e0=0):=hz0
   have f0:(e0==0)=false:=by simpa using hz0
   clear hz0
   have hz1:e0=er:=by
    rw[← HER.out];unfold readE;rw[if_neg HNT.out];exact HE0.out.symm
   subst hz1;obtain⟨z0,z1,z2,z3,-⟩:=HKR.out.cj;have m0:=HFR.out.2 0;have m1:=HFR.out.2 1;have m2:=HFR.out.2 2;have m3:=HFR.out.2 3;obtain⟨W9,hW9⟩:∃ W,W=(((v2.setCell ⟨r,0,none⟩ (.int .i64 0)).setCell ⟨r,1,none⟩ (.bool false)).setCell ⟨r,2,none⟩ (.int .i64 0)).setCell ⟨r,3,none⟩ (.slice none 0 0):=⟨_,rfl⟩
   have HB9:Hid (Below w.heap.size w W9):=by
    unfold Hid;rw[hW9];exact (((HKc.out.below.setCell (p:=⟨r,0,none⟩) hwr _).setCell (p:=⟨r,1,none⟩) hwr _).setCell (p:=⟨r,2,none⟩) hwr _).setCell (p:=⟨r,3,none⟩) hwr _
   have l0:W9.cell? ⟨r,0,none⟩=some (.int .i64 0):=by rw[hW9];go_simp
   have l1:W9.cell? ⟨r,1,none⟩=some (.bool false):=by rw[hW9];go_simp
   have l2:W9.cell? ⟨r,2,none⟩=some (.int .i64 0):=by rw[hW9];go_simp
   have l3:W9.cell? ⟨r,3,none⟩=some (.slice none 0 0):=by rw[hW9];go_simp
   have HW9:=Lib.hid hW9;clear hW9;go_wp2_with fail;rw[← HW9.out];refine bodyPost_ret (v:=.tuple #[.agg #[.int .i64 0,.bool false,.int .i64 0,.slice none 0 0],.int .i64 e0]) (by simp[results,Tryz.results24,go_sem,l0,l1,l2,l3]) rfl ?_;obtain rfl:v=zeroV:=HZV.out (by exact HNE.out);exact⟨none,0,rfl,Rd.nil _,HB9.out⟩
end Cs
end Go.Proofs.YtgeafpaognhokaaGreat
