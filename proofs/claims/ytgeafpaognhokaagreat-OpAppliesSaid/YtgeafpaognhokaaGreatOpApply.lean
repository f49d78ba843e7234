/- Changes: what a change of a tree is: the document's. -/
import Derived.Test.YtgeafpaognhokaaGreatG00
import Derived.Test.YtgeafpaognhokaaGreatOpFull
import Derived.Test.YtgeafpaognhokaaGreatG60
import Derived.Test.YtgeafpaognhokaaGreatG10
import Derived.Test.YtgeafpaognhokaaGreatTreeRefRight
namespace Go.Proofs.YtgeafpaognhokaaGreat
open Go.ChangeShapes Go.WideShapes Go.ChangeAt Go.RowKit
namespace Cs
open Tr Cx Sp Rw Classical
theorem rd_getT {w:World} {B:Nat} : ∀ (p:List ByteArray) {t:T} {a b:SV},nodes t≤1000→RdT w B t a b→∃ a' b',RdT w B (getT t p) a' b'
 | [],_,a,b,_,h=>⟨a,b,h⟩
 | s::p,t,⟨Ae,ne,ce⟩,⟨Ak,nk,ck⟩,hn,hr=>by
  show ∃ a' b',RdT w B (getT (kidAt t.ks s) p) a' b';have hnn:=nodes_kid_at t s
  cases t with
  | mk es ks=>
   rcases kidAt_mem (ks:=ks) (key:=s)with ⟨x,hx,_,he⟩ | ⟨_,he⟩
   ·obtain⟨j,hj,rfl⟩:=List.getElem_of_mem hx
    have hnk:=(rd_lens hr).2;obtain⟨b,o,rfl,hb,hc⟩:=rd_kid hr (by omega);obtain⟨a',b',_,_,_,hkid⟩:=hc j hj
    have hnn2:nodes (ks[j]).2≤nodes (.mk es ks):=by rw[← he];exact hnn
    rw[show kidAt (T.mk es ks).ks s=(ks[j]).2 from he];exact rd_getT p (by omega) hkid
   ·rw[show kidAt (T.mk es ks).ks s=none_ from he,getT_none]
    exact⟨⟨none,0,0⟩,⟨none,0,0⟩,RdT.none _ _ _ _⟩
theorem own_few (t:T):nodes (.mk t.es [])≤nodes t:=by
 rw[nodes_mk];have h:=nodes_es t.es t.ks;rw[T.eta]at h;simp;omega
theorem own_reads {w:World} {B:Nat} {t:T} {a b:SV} (h:RdT w B t a b):RdT w B (.mk t.es []) a ⟨none,0,0⟩:=by
 obtain⟨Ae,ne,ce⟩:=a;obtain⟨Ak,nk,ck⟩:=b;rw[← T.eta t,rdT_mk]at h;rw[rdT_mk];exact⟨h.1,h.2.1,rfl,[],Rd.nil _,fun i hi=>by simp at hi⟩
theorem some_sees {t:T} (ht:RightT 5 t) {o:OpM} {a b:SV} {w:World} (hn:nodes t≤1000) (hr:RdT w w.heap.size t a b):∃ u,OfC (seesL t o) u∧u.length≤4*nodes t:=by
 have one:∀ p,∃ u,OfC (dl (getT t p)) u∧u.length≤4*nodes t:=fun p=>by
  obtain⟨⟨A,n,c⟩,⟨B,m,d⟩,h⟩:=rd_getT p hn hr;have h2:=nodes_getT t p;obtain⟨u,h3,h4⟩:=some_of (getT_right ht p) (LenT.few (by omega)) (by omega) h;exact⟨u,h3,by omega⟩
 unfold seesL
 by_cases h1:o.act=3∨o.act=4
 ·rw[if_pos h1];exact one _
 rw[if_neg h1]
 by_cases h2:o.act=5
 ·rw[if_pos h2];exact⟨[],of_nil,by simp⟩
 rw[if_neg h2]
 by_cases h3:o.act=6
 ·rw[if_pos h3]
  obtain⟨⟨A,n,c⟩,⟨B,m,d⟩,h⟩:=rd_getT o.path hn hr;have h4:=nodes_getT t o.path;have h5:=own_few (getT t o.path);obtain⟨u,h6,h7⟩:=some_of (right_own (getT_right ht o.path)) (LenT.few (by omega)) (by omega) (own_reads h);exact⟨u,by rw[ownD_dl]at h6;exact h6,by omega⟩
 ·rw[if_neg h3];exact one _
theorem some_put {u:List S3} {k d:Nat} {B:Option Addr} {w:World} (hul:u.length=k) (hk:k≤5000) (hru:Rd w w.heap.size 3 B k d (spsC u)) (hur:RightC u) {a n:Int} (hd:Dt.rightB a n=true):∃ v,PutC uniF u (oneC a n) v∧v.length≤k+1:=by
 obtain⟨_,w',g,_,ho,hb⟩:=Calls.some (refone_any a n w);obtain⟨_,_,v,q,_,_,_,h1,h2,h3,_⟩:=Calls.some (unionC_any u (oneC a n) k 1 B (some ⟨g,0,none⟩) d 1 w' hul rfl (by omega) (by omega) (hru.later hb) ho.out.rd hur (right_oneC hd));exact⟨v,h2.out,by rw[h1.out];exact h3⟩
noncomputable def appE (t:T) (o:OpM) (a n:Int):Int:=if Tr.rightB 5 t=false then 1 else if ¬opE o=0 then opE o else if checkB t a n=false then 1 else if fullB t o=true then 4 else 0
theorem path_keys {p:List ByteArray} (h:PathOk p):∀ k∈p,KeyOk k:=fun k hk=>by
 obtain⟨h1,h2⟩:=h.each k hk;refine⟨Nat.pos_of_ne_zero fun h3=>h2 ?_,h1⟩;obtain⟨⟨l⟩⟩:=k
 cases l with
 | nil=>rfl
 | cons c l=>cases (show (c::l).length=0 from h3)
theorem end_keys {o:OpM} (h:OpOk o):(∀ k∈endP o,KeyOk k)∧(endP o).length≤4:=by
 unfold endP;have h1:=path_keys h.path;have h2:=h.path.few
 split
 ·rename_i h3
  refine⟨fun k hk=>?_,by rw[List.length_append];simp;omega⟩
  rcases List.mem_append.1 hk with h4 | h4
  ·exact h1 k h4
  ·rw[List.mem_singleton.1 h4];exact h.key (.inl h3)
 ·exact⟨h1,by omega⟩
theorem right_end {o:OpM} (h:OpOk o) {e:E} (he:RightE e):RightT 5 (wrapT (oneT e) (endP o)):=by
 have h2:=end_keys h;exact (RightT.wrap (d:=1) (right_oneT (d:=0) he) (by unfold oneT;simp[T.es]) h2.1).le (by omega)
theorem right_ent {o:OpM} (h:OpOk o) {a n:Int} (hd:Dt.rightB a n=true):RightE (entOf ⟨(a,n),o,[]⟩):=by
 refine⟨hd,?_,?_,?_⟩
 ·show ByteArray.size (if o.act=6 then o.s else⟨#[]⟩)≤30
  split
  ·rename_i h6;exact h.text h6
  ·show ByteArray.size ⟨#[]⟩≤30;decide
 ·show (-1099511627776:Int)≤o.n
  by_cases h5:o.act=5
  ·exact (h.num h5).1
  ·rw[h.zero h5];decide
 ·show o.n≤(1099511627776:Int)
  by_cases h5:o.act=5
  ·exact (h.num h5).2
  ·rw[h.zero h5];decide
theorem boxTODC (w:World) (Ae Ak:Option Addr) (ne nk ce ck:Nat) (xA:Option Addr) (xn xc:Nat) (xa:Int) (xs:ByteArray) (xv a n:Int):∃ (W:World) (p q s r:Nat),Hid (W=(((w.alloc (.cells #[.slice Ae ne ce,.slice Ak nk ck] 35)).alloc (.cells #[.slice xA xn xc,.int .i64 xa,.string xs,.int .i64 xv] 27)).alloc (.cells #[.int .i64 a,.int .i64 n] 37)).alloc (.cells #[.slice none 0 0,.slice none 0 0,.slice none 0 0] 42))∧Hid (p=w.heap.size)∧Hid (q=p+1)∧Hid (s=p+1+1)∧Hid (r=p+1+1+1)∧Hid (Kept [(⟨p,0,none⟩,.slice Ae ne ce),(⟨p,1,none⟩,.slice Ak nk ck),(⟨q,0,none⟩,.slice xA xn xc),(⟨q,1,none⟩,.int .i64 xa),(⟨q,2,none⟩,.string xs),(⟨q,3,none⟩,.int .i64 xv),(⟨s,0,none⟩,.int .i64 a),(⟨s,1,none⟩,.int .i64 n)] w W)∧Hid (Kept [(⟨r,0,none⟩,.slice none 0 0),(⟨r,1,none⟩,.slice none 0 0),(⟨r,2,none⟩,.slice none 0 0)] w W)∧Hid (Free r W):=by
 refine⟨_,_,_,_,_,rfl,rfl,rfl,rfl,rfl,?_,?_,⟨by simp,fun j=>by go_simp⟩⟩
 ·have h0:=Kept.nil_of (show Below w.heap.size w ((((w.alloc (.cells #[.slice Ae ne ce,.slice Ak nk ck] 35)).alloc (.cells #[.slice xA xn xc,.int .i64 xa,.string xs,.int .i64 xv] 27)).alloc (.cells #[.int .i64 a,.int .i64 n] 37)).alloc (.cells #[.slice none 0 0,.slice none 0 0,.slice none 0 0] 42)) from ((((Below.refl _ _).alloc (Nat.le_refl _) _).alloc (by simp) _).alloc (by simp;omega) _).alloc (by simp;omega) _)
  refine ((((((((h0).cons_of ?_).cons_of ?_).cons_of ?_).cons_of ?_).cons_of ?_).cons_of ?_).cons_of ?_).cons_of ?_ <;> go_simp
 ·have h0:=Kept.nil_of (show Below w.heap.size w ((((w.alloc (.cells #[.slice Ae ne ce,.slice Ak nk ck] 35)).alloc (.cells #[.slice xA xn xc,.int .i64 xa,.string xs,.int .i64 xv] 27)).alloc (.cells #[.int .i64 a,.int .i64 n] 37)).alloc (.cells #[.slice none 0 0,.slice none 0 0,.slice none 0 0] 42)) from ((((Below.refl _ _).alloc (Nat.le_refl _) _).alloc (by simp) _).alloc (by simp;omega) _).alloc (by simp;omega) _)
  refine ((h0.cons_of ?_).cons_of ?_).cons_of ?_ <;> go_simp
def ApplyIs (t:T) (o:OpM) (a n er:Int) (w:World) (e:Ending) (w':World):Prop:=∃ (k:K) (Xe:Option Addr) (xe1 xe2:Nat) (Xk:Option Addr) (xk1 xk2:Nat) (Xc:Option Addr) (xc1 xc2:Nat),e = .returned (.tuple #[.agg #[.slice Xe xe1 xe2,.slice Xk xk1 xk2,.slice Xc xc1 xc2],.int .i64 er])∧Hid (OwC w' w.heap.size k Xe xe1 xe2 Xk xk1 xk2 Xc xc1 xc2)∧Hid ((er=0→DeltaOf t o (a,n) k∧xc1≤4*nodes t+4)∧(¬er=0→k=noneK))∧Below w.heap.size w w'
set_option maxRecDepth 100000 in
set_option maxHeartbeats 4000000 in
theorem refapply_any (t:T) (Ae Ak:Option Addr) (ne nk ce ck:Nat) (xp:List ByteArray) (xa:Int) (xs:ByteArray) (xv:Int) (xA:Option Addr) (xn xc:Nat) (a n:Int) (w:World) (er:Int) (her:appE t ⟨xp,xa,xs,xv⟩ a n=er) (hl:LenT reachBytes t) (hn:nodes t≤1000) (hr:RdT w w.heap.size t ⟨Ae,ne,ce⟩ ⟨Ak,nk,ck⟩) (hn2:nodes t≤240) (hn1:xn≤900) (hrx:Rd w w.heap.size 1 xA xn xc (strs xp)) :
  Calls Tryz.prog 21 #[.agg #[.slice Ae ne ce,.slice Ak nk ck],.agg #[.slice xA xn xc,.int .i64 xa,.string xs,.int .i64 xv],.agg #[.int .i64 a,.int .i64 n]] w (ApplyIs t ⟨xp,xa,xs,xv⟩ a n er w):=by
 obtain⟨W,p,q,s,r,HW,HP,HQ,HS0,HR0,HKc,HKR,HFR⟩:=boxTODC w Ae Ak ne nk ce ck xA xn xc xa xs xv a n
 have hwr:w.heap.size≤r:=by have:=HP.out;have:=HR0.out;omega
 have hpr:p<r:=by have:=HP.out;have:=HR0.out;omega
 have hqr:q<r:=by have:=HQ.out;have:=HR0.out;omega
 have hsr:s<r:=by have:=HS0.out;have:=HR0.out;omega
 have R:=Lib.hid (RdT.later hr HKc.out.below);have RX:=Lib.hid (hrx.later HKc.out.below);have HLX:=Lib.hid (rd_len1 hrx);have HRT0:=Lib.hid hr;have HRX0:=Lib.hid hrx;have N:=Lib.hid (And.intro hn (And.intro hn1 hl));have HER:=Lib.hid her;have N2:=Lib.hid hn2;obtain⟨y1,hy1⟩:∃ y,Tr.rightB 5 t=y:=⟨_,rfl⟩;obtain⟨y2,hy2⟩:∃ y,checkB t a n=y:=⟨_,rfl⟩;obtain⟨y3,hy3⟩:∃ y,fullB t ⟨xp,xa,xs,xv⟩=y:=⟨_,rfl⟩;obtain⟨y4,hy4⟩:∃ y,decide (brings xa)=y:=⟨_,rfl⟩;obtain⟨e0,he0⟩:∃ x,opE ⟨xp,xa,xs,xv⟩=x:=⟨_,rfl⟩;have HY1:=Lib.hid hy1;have HY2:=Lib.hid hy2;have HY3:=Lib.hid hy3;have HY4:=Lib.hid hy4;have HE0:=Lib.hid he0;clear hl hn hr hrx hn1 hn2 her hy1 hy2 hy3 hy4 he0;obtain⟨c0,c1,c2,c3,c4,c5,c6,c7,-⟩:=HKc.out.cj;go_enter Tryz.func21,Tryz.ntmps21
 go_wp2_with fail;rw[← HW.out,← HP.out]
 try rw[← HR0.out]
 try rw[← HS0.out]
 try rw[← HQ.out]
 refine (refrightT_any t Ae Ak ne nk ce ck W N.out.2.2 R.out).mono ?_;rw[HY1.out];rintro e v1 ⟨rfl,hb9⟩;have HKc:=Lib.hid (HKc.out.later hb9);have R:=Lib.hid (RdT.later R.out hb9);have RX:=Lib.hid (RX.out.later hb9);have HKR:=Lib.hid (HKR.out.later hb9);have HFR:=Lib.hid (HFR.out.later hb9);clear hb9;clear c0 c1 c2 c3 c4 c5 c6 c7
 cases y1 with
 | false=>
  have hz1:er=1:=by
   rw[← HER.out];unfold appE;rw[if_pos HY1.out]
  obtain rfl:=hz1;obtain⟨z0,z1,z2,-⟩:=HKR.out.cj;have m0:=HFR.out.2 0;have m1:=HFR.out.2 1;have m2:=HFR.out.2 2;obtain⟨W9,hW9⟩:∃ W,W=((v1.setCell ⟨r,0,none⟩ (.slice none 0 0)).setCell ⟨r,1,none⟩ (.slice none 0 0)).setCell ⟨r,2,none⟩ (.slice none 0 0):=⟨_,rfl⟩
  have HB9:Hid (Below w.heap.size w W9):=by
   unfold Hid;rw[hW9];exact ((HKc.out.below.setCell (p:=⟨r,0,none⟩) hwr _).setCell (p:=⟨r,1,none⟩) hwr _).setCell (p:=⟨r,2,none⟩) hwr _
  have l0:W9.cell? ⟨r,0,none⟩=some (.slice none 0 0):=by rw[hW9];go_simp
  have l1:W9.cell? ⟨r,1,none⟩=some (.slice none 0 0):=by rw[hW9];go_simp
  have l2:W9.cell? ⟨r,2,none⟩=some (.slice none 0 0):=by rw[hW9];go_simp
  have HW9:=Lib.hid hW9;clear hW9;go_wp2_with fail;rw[← HW9.out];refine bodyPost_ret (v:=.tuple #[.agg #[.slice none 0 0,.slice none 0 0,.slice none 0 0],.int .i64 1]) (by simp[results,Tryz.results21,go_sem,l0,l1,l2]) rfl ⟨noneK,none,0,0,none,0,0,none,0,0,rfl,OwC.no _ _,⟨fun h=>absurd h (by omega),fun _=>rfl⟩,HB9.out⟩
 | true=>
  have HNT:Hid (¬Tr.rightB 5 t=false):=by unfold Hid;rw[HY1.out];decide
  obtain⟨c0,c1,c2,c3,c4,c5,c6,c7,-⟩:=HKc.out.cj;go_wp2_with fail;refine (refop_any xp xa xs xv xA xn xc v1 e0 HE0.out (by have:=N.out;have:=N2.out;omega) RX.out).mono ?_;rintro e v2 ⟨rfl,hb9⟩;have HKc:=Lib.hid (HKc.out.later hb9);have R:=Lib.hid (RdT.later R.out hb9);have RX:=Lib.hid (RX.out.later hb9);have HKR:=Lib.hid (HKR.out.later hb9);have HFR:=Lib.hid (HFR.out.later hb9);clear hb9;clear c0 c1 c2 c3 c4 c5 c6 c7
  by_cases hz0:e0=0
  ·subst hz0
   have HOK:Hid (OpOk ⟨xp,xa,xs,xv⟩):=opE_zero.1 HE0.out;obtain⟨c0,c1,c2,c3,c4,c5,c6,c7,-⟩:=HKc.out.cj;go_wp2_with fail;refine (refcheck_any t Ae Ak ne nk ce ck a n v2 y2 HY2.out N.out.2.2 N.out.1 R.out).mono ?_;rintro e v3 ⟨rfl,hb9⟩;have HKc:=Lib.hid (HKc.out.later hb9);have R:=Lib.hid (RdT.later R.out hb9);have RX:=Lib.hid (RX.out.later hb9);have HKR:=Lib.hid (HKR.out.later hb9);have HFR:=Lib.hid (HFR.out.later hb9);clear hb9;clear c0 c1 c2 c3 c4 c5 c6 c7
   cases y2 with
   | false=>
    have hz1:er=1:=by
     rw[← HER.out];unfold appE;rw[if_neg HNT.out,if_neg (fun h=>h HE0.out),if_pos HY2.out]
    obtain rfl:=hz1;obtain⟨z0,z1,z2,-⟩:=HKR.out.cj;have m0:=HFR.out.2 0;have m1:=HFR.out.2 1;have m2:=HFR.out.2 2;obtain⟨W9,hW9⟩:∃ W,W=((v3.setCell ⟨r,0,none⟩ (.slice none 0 0)).setCell ⟨r,1,none⟩ (.slice none 0 0)).setCell ⟨r,2,none⟩ (.slice none 0 0):=⟨_,rfl⟩
    have HB9:Hid (Below w.heap.size w W9):=by
     unfold Hid;rw[hW9];exact ((HKc.out.below.setCell (p:=⟨r,0,none⟩) hwr _).setCell (p:=⟨r,1,none⟩) hwr _).setCell (p:=⟨r,2,none⟩) hwr _
    have l0:W9.cell? ⟨r,0,none⟩=some (.slice none 0 0):=by rw[hW9];go_simp
    have l1:W9.cell? ⟨r,1,none⟩=some (.slice none 0 0):=by rw[hW9];go_simp
    have l2:W9.cell? ⟨r,2,none⟩=some (.slice none 0 0):=by rw[hW9];go_simp
    have HW9:=Lib.hid hW9;clear hW9;go_wp2_with fail;rw[← HW9.out];refine bodyPost_ret (v:=.tuple #[.agg #[.slice none 0 0,.slice none 0 0,.slice none 0 0],.int .i64 1]) (by simp[results,Tryz.results21,go_sem,l0,l1,l2]) rfl ⟨noneK,none,0,0,none,0,0,none,0,0,rfl,OwC.no _ _,⟨fun h=>absurd h (by omega),fun _=>rfl⟩,HB9.out⟩
   | true=>
    have HT:Hid (RightT 5 t):=(check_iff.1 HY2.out).1;have HD:Hid (Dt.rightB a n=true):=(check_iff.1 HY2.out).2.1
    have HNC:Hid (¬checkB t a n=false):=by unfold Hid;rw[HY2.out];decide
    obtain⟨c0,c1,c2,c3,c4,c5,c6,c7,-⟩:=HKc.out.cj;go_wp2_with fail;refine (reffull_any15 t Ae Ak ne nk ce ck xp xa xs xv xA xn xc v3 y3 HY3.out HT.out N.out.2.2 N.out.1 R.out N.out.2.1 RX.out).mono ?_;rintro e v4 ⟨rfl,hb9⟩;have HKc:=Lib.hid (HKc.out.later hb9);have R:=Lib.hid (RdT.later R.out hb9);have RX:=Lib.hid (RX.out.later hb9);have HKR:=Lib.hid (HKR.out.later hb9);have HFR:=Lib.hid (HFR.out.later hb9);clear hb9;clear c0 c1 c2 c3 c4 c5 c6 c7
    cases y3 with
    | true=>
     have hz1:er=4:=by
      rw[← HER.out];unfold appE;rw[if_neg HNT.out,if_neg (fun h=>h HE0.out),if_neg HNC.out,if_pos HY3.out]
     obtain rfl:=hz1;obtain⟨z0,z1,z2,-⟩:=HKR.out.cj;have m0:=HFR.out.2 0;have m1:=HFR.out.2 1;have m2:=HFR.out.2 2;obtain⟨W9,hW9⟩:∃ W,W=((v4.setCell ⟨r,0,none⟩ (.slice none 0 0)).setCell ⟨r,1,none⟩ (.slice none 0 0)).setCell ⟨r,2,none⟩ (.slice none 0 0):=⟨_,rfl⟩
     have HB9:Hid (Below w.heap.size w W9):=by
      unfold Hid;rw[hW9];exact ((HKc.out.below.setCell (p:=⟨r,0,none⟩) hwr _).setCell (p:=⟨r,1,none⟩) hwr _).setCell (p:=⟨r,2,none⟩) hwr _
     have l0:W9.cell? ⟨r,0,none⟩=some (.slice none 0 0):=by rw[hW9];go_simp
     have l1:W9.cell? ⟨r,1,none⟩=some (.slice none 0 0):=by rw[hW9];go_simp
     have l2:W9.cell? ⟨r,2,none⟩=some (.slice none 0 0):=by rw[hW9];go_simp
     have HW9:=Lib.hid hW9;clear hW9;go_wp2_with fail;rw[← HW9.out];refine bodyPost_ret (v:=.tuple #[.agg #[.slice none 0 0,.slice none 0 0,.slice none 0 0],.int .i64 4]) (by simp[results,Tryz.results21,go_sem,l0,l1,l2]) rfl ⟨noneK,none,0,0,none,0,0,none,0,0,rfl,OwC.no _ _,⟨fun h=>absurd h (by omega),fun _=>rfl⟩,HB9.out⟩
    | false=>
     have hz1:er=0:=by
      rw[← HER.out];unfold appE;rw[if_neg HNT.out,if_neg (fun h=>h HE0.out),if_neg HNC.out,if_neg (by rw[HY3.out];decide)]
     obtain rfl:=hz1;obtain⟨u,hu1,hu2⟩:=some_sees (o:=⟨xp,xa,xs,xv⟩) HT.out N.out.1 HRT0.out;obtain⟨m9,hm9⟩:∃ m9,u.length=m9:=⟨_,rfl⟩;have HU:Hid (OfC (seesL t ⟨xp,xa,xs,xv⟩) u∧u.length=m9∧m9≤4*nodes t):=⟨hu1,hm9,by omega⟩;clear hu1 hu2 hm9;obtain⟨c0,c1,c2,c3,c4,c5,c6,c7,-⟩:=HKc.out.cj;go_wp2_with fail;refine (refentry_any xa v4 y4 HY4.out).mono ?_;rintro e v5 ⟨rfl,hb9⟩;have HKc:=Lib.hid (HKc.out.later hb9);have R:=Lib.hid (RdT.later R.out hb9);have RX:=Lib.hid (RX.out.later hb9);have HKR:=Lib.hid (HKR.out.later hb9);have HFR:=Lib.hid (HFR.out.later hb9);clear hb9;clear c0 c1 c2 c3 c4 c5 c6 c7
     cases y4 with
     | false=>
      have HNB:Hid (¬brings xa):=of_decide_eq_false HY4.out;obtain⟨c0,c1,c2,c3,c4,c5,c6,c7,-⟩:=HKc.out.cj;go_wp2_with fail;clear c0 c1 c2 c3 c4 c5 c6 c7;refine wp_region_held_drew (S:=Conj _) (by kernel_rfl) HKc.out.drew.cj (fun hHeld=>?_);obtain⟨v6,hv6⟩:∃ v,v=v5.drew:=⟨_,rfl⟩
      have hb9:Below v5.heap.size v5 v6:=by rw[hv6];exact (Below.refl _ _).drew
      have HKc:=Lib.hid (HKc.out.later hb9);have R:=Lib.hid (RdT.later R.out hb9);have RX:=Lib.hid (RX.out.later hb9);have HKR:=Lib.hid (HKR.out.later hb9);have HFR:=Lib.hid (HFR.out.later hb9);clear hb9;rw[← hv6]at hHeld ⊢;clear hv6;refine Tk 0 33 ?_;refine Tk 1 34 ?_;refine Tk 2 35 ?_;refine Tc 3 (fun K hK=>?_);go_simp;(go_at_call 56;refine (refsees_any t Ae Ak ne nk ce ck xp xa xs xv xA xn xc u m9 v6 HT.out N.out.1 R.out N.out.2.1 RX.out HU.out.1 HU.out.2.1 (by have:=HU.out.2.2;have:=N.out;have:=N2.out;omega)).mono ?_);rintro e v7 ⟨B9,d9,rfl,hru,hb9⟩;have RU:=Lib.hid hru;clear hru;have HKc:=Lib.hid (HKc.out.later hb9);have R:=Lib.hid (RdT.later R.out hb9);have RX:=Lib.hid (RX.out.later hb9);have HKR:=Lib.hid (HKR.out.later hb9);have HFR:=Lib.hid (HFR.out.later hb9);clear hb9;clear hHeld;refine Th hK ?_ (fun hHeld=>?_)
      ·exact HKc.out.cj
      clear hK K;refine Tc 4 (fun K hK=>?_);go_simp;obtain⟨vu,hvu,hvl⟩:=some_put HU.out.2.1 (by have:=HU.out.2.2;have:=N.out;have:=N2.out;omega) RU.out HU.out.1.right HD.out;obtain⟨q9,hq9⟩:∃ q,vu.length=q:=⟨_,rfl⟩;have HV:Hid (PutC uniF u (oneC a n) vu∧vu.length=q9∧q9≤4*nodes t+4):=⟨hvu,hq9,by have:=HU.out.2.2;omega⟩;clear hvu hvl hq9;(go_at_call 55;refine (refgone_any a n u vu B9 m9 d9 q9 v7 HU.out.2.1 (by have:=HU.out.2.2;have:=N.out;have:=N2.out;omega) RU.out HU.out.1.right HD.out HV.out.1 HV.out.2.1 (by have:=HV.out.2.2;have:=N.out;have:=N2.out;omega)).mono ?_);rintro e v8 ⟨Xe,xe1,xe2,Xk,xk1,xk2,Xc,xc1,xc2,rfl,how,hb9⟩;have HOX:Hid (OwC v8 (r+1) (none_,vu) Xe xe1 xe2 Xk xk1 xk2 Xc xc1 xc2):=OwC.mono how (Nat.succ_le_of_lt HFR.out.1);clear how;have HKc:=Lib.hid (HKc.out.later hb9)
      have R:=Lib.hid (RdT.later R.out hb9);have RX:=Lib.hid (RX.out.later hb9);have HKR:=Lib.hid (HKR.out.later hb9);have HFR:=Lib.hid (HFR.out.later hb9);have RU:=Lib.hid (RU.out.later hb9);clear hb9;obtain⟨z0,z1,z2,-⟩:=HKR.out.cj;have m0:=HFR.out.2 0;have m1:=HFR.out.2 1;have m2:=HFR.out.2 2;clear hHeld;refine Th hK ?_ (fun hHeld=>?_)
      ·exact HKc.out.cj
      clear hK K;refine Tc 5 (fun K hK=>?_);go_simp;refine Th hK ?_ (fun hHeld2=>?_)
      ·(try dsimp only)
       have h9:=HKc.out.st3 (g:=r) hwr (fun x hx=>by simp at hx;rcases hx with rfl | rfl | rfl | rfl | rfl | rfl | rfl | rfl <;> (dsimp only;omega)) (.slice Xe xe1 xe2) (.slice Xk xk1 xk2) (.slice Xc xc1 xc2)
       exact h9.cj
      clear hK K hHeld;have hHeld:=hHeld2;clear hHeld2;refine Tk 6 7 ?_;refine wpAnyH_done (by kernel_rfl) ?_ _;clear hHeld;obtain⟨z0,z1,z2,-⟩:=HKR.out.cj;have m0:=HFR.out.2 0;have m1:=HFR.out.2 1;have m2:=HFR.out.2 2;obtain⟨W9,hW9⟩:∃ W,W=((v8.setCell ⟨r,0,none⟩ (.slice Xe xe1 xe2)).setCell ⟨r,1,none⟩ (.slice Xk xk1 xk2)).setCell ⟨r,2,none⟩ (.slice Xc xc1 xc2):=⟨_,rfl⟩
      have HB9:Hid (Below w.heap.size w W9):=by
       unfold Hid;rw[hW9];exact ((HKc.out.below.setCell (p:=⟨r,0,none⟩) hwr _).setCell (p:=⟨r,1,none⟩) hwr _).setCell (p:=⟨r,2,none⟩) hwr _
      have HO9:Hid (OwC W9 w.heap.size (none_,vu) Xe xe1 xe2 Xk xk1 xk2 Xc xc1 xc2):=by
       unfold Hid;rw[hW9];exact (HOX.out.set3 (Nat.lt_succ_self r) _ _ _).mono (by omega)
      have HLV:Hid (xc1≤4*nodes t+4):=by
       have h1:=HOX.out.len;have h2:=HV.out.2;dsimp only at h1;unfold Hid;omega
      have l0:W9.cell? ⟨r,0,none⟩=some (.slice Xe xe1 xe2):=by rw[hW9];go_simp
      have l1:W9.cell? ⟨r,1,none⟩=some (.slice Xk xk1 xk2):=by rw[hW9];go_simp
      have l2:W9.cell? ⟨r,2,none⟩=some (.slice Xc xc1 xc2):=by rw[hW9];go_simp
      have HW9:=Lib.hid hW9;clear hW9 z0 z1 z2 m0 m1 m2;rw[← HW9.out];go_wp2_with fail;refine bodyPost_ret (v:=.tuple #[.agg #[.slice Xe xe1 xe2,.slice Xk xk1 xk2,.slice Xc xc1 xc2],.int .i64 0]) (by simp[results,Tryz.results21,go_sem,l0,l1,l2]) rfl ⟨(none_,vu),Xe,xe1,xe2,Xk,xk1,xk2,Xc,xc1,xc2,rfl,HO9.out,⟨fun _=>⟨⟨(if_neg HNB.out).symm,u,HU.out.1,HV.out.1⟩,HLV.out⟩,fun h=>absurd rfl h⟩,HB9.out⟩
     | true=>
      have HBR:Hid (brings xa):=of_decide_eq_true HY4.out
      by_cases h6:xa=6
      ·subst h6
       have HS6:Hid ((if (6:Int)=6 then xs else⟨#[]⟩)=xs):=if_pos rfl
       obtain⟨o0,o1,o2,o3,o4,o5,o6,o7,-⟩:=HKc.out.cj;have n0:=(HKc.out.alloc (.cells #[.int .i64 a,.int .i64 n,.string ⟨#[]⟩,.int .i64 xv] 97)).c0;have n1:=(HKc.out.alloc (.cells #[.int .i64 a,.int .i64 n,.string ⟨#[]⟩,.int .i64 xv] 97)).c1;have n2:=(HKc.out.alloc (.cells #[.int .i64 a,.int .i64 n,.string ⟨#[]⟩,.int .i64 xv] 97)).c2;have n3:=(HKc.out.alloc (.cells #[.int .i64 a,.int .i64 n,.string ⟨#[]⟩,.int .i64 xv] 97)).c3;have n4:=(HKc.out.alloc (.cells #[.int .i64 a,.int .i64 n,.string ⟨#[]⟩,.int .i64 xv] 97)).c4;have n5:=(HKc.out.alloc (.cells #[.int .i64 a,.int .i64 n,.string ⟨#[]⟩,.int .i64 xv] 97)).c5;have n6:=(HKc.out.alloc (.cells #[.int .i64 a,.int .i64 n,.string ⟨#[]⟩,.int .i64 xv] 97)).c6
       have n7:=(HKc.out.alloc (.cells #[.int .i64 a,.int .i64 n,.string ⟨#[]⟩,.int .i64 xv] 97)).c7;have hrs9:=HFR.out.1;obtain⟨b,hb⟩:∃ g,g=v5.heap.size:=⟨_,rfl⟩;obtain⟨v6,hv6⟩:∃ W,W=v5.alloc (.cells #[.int .i64 a,.int .i64 n,.string xs,.int .i64 xv] 97):=⟨_,rfl⟩
       have hb9:Below v5.heap.size v5 v6:=by rw[hv6];exact Dt.box_below _ _ _
       have b0:v6.cell? ⟨b,0,none⟩=some (.int .i64 a):=by rw[hv6,hb];go_simp
       have b1:v6.cell? ⟨b,1,none⟩=some (.int .i64 n):=by rw[hv6,hb];go_simp
       have b2:v6.cell? ⟨b,2,none⟩=some (.string xs):=by rw[hv6,hb];go_simp
       have b3:v6.cell? ⟨b,3,none⟩=some (.int .i64 xv):=by rw[hv6,hb];go_simp
       have HKc:=Lib.hid (HKc.out.later hb9);have R:=Lib.hid (RdT.later R.out hb9);have RX:=Lib.hid (RX.out.later hb9);have HKR:=Lib.hid (HKR.out.later hb9);have HFR:=Lib.hid (HFR.out.later hb9);clear hb9;have HKc:=Lib.hid ((((HKc.out.cons_of b3).cons_of b2).cons_of b1).cons_of b0);have Hb:=Lib.hid hb;have Hv6:=Lib.hid hv6;clear hb hv6 b0 b1 b2 b3
       have HRB:Hid (r<b∧w.heap.size≤b):=by unfold Hid;rw[Hb.out];exact⟨hrs9,by omega⟩
       clear hrs9;have hrb:r<b:=HRB.out.1;obtain⟨c0,c1,c2,c3,c4,c5,c6,c7,c8,c9,c10,c11,-⟩:=HKc.out.cj;rw[Hv6.out]at c0 c1 c2 c3 c4 c5 c6 c7 c8 c9 c10 c11;rw[Hb.out]at c0 c1 c2 c3;go_wp2_with fail;rw[← Hb.out,← Hv6.out];clear c0 c1 c2 c3 c4 c5 c6 c7 c8 c9 c10 c11;clear o0 o1 o2 o3 o4 o5 o6 o7 n0 n1 n2 n3 n4 n5 n6 n7
       have HEE:Hid (entOf ⟨(a,n),⟨xp,6,xs,xv⟩,[]⟩=⟨a,n,xs,xv⟩):=by
        unfold Hid entOf;dsimp only;rw[if_pos rfl]
       have HRE:Hid (RightE ⟨a,n,xs,xv⟩):=by
        have h:=right_ent HOK.out HD.out;rw[HEE.out]at h;exact h
       have HRW:Hid (RightT 5 (wrapT (oneT ⟨a,n,xs,xv⟩) (endP ⟨xp,6,xs,xv⟩))):=right_end HOK.out HRE.out;refine wp_region_held_drew (S:=Conj _) (by kernel_rfl) HKc.out.drew.cj (fun hHeld=>?_);obtain⟨v7,hv7⟩:∃ v,v=v6.drew:=⟨_,rfl⟩
       have hb9:Below v6.heap.size v6 v7:=by rw[hv7];exact (Below.refl _ _).drew
       have HKc:=Lib.hid (HKc.out.later hb9);have R:=Lib.hid (RdT.later R.out hb9);have RX:=Lib.hid (RX.out.later hb9);have HKR:=Lib.hid (HKR.out.later hb9);have HFR:=Lib.hid (HFR.out.later hb9);clear hb9;rw[← hv7]at hHeld ⊢;clear hv7;refine Tk 0 48 ?_;refine Tk 2 50 ?_;refine Tk 3 51 ?_;refine Tk 4 52 ?_;refine Tc 1 (fun K hK=>?_);go_simp;(go_at_call 58;refine (refend_any xp 6 xs xv xA xn xc v7 N.out.2.1 RX.out).mono ?_);rintro e v8 ⟨eA,em,ec,rfl,ho4,hem,hb9⟩;have RE:Hid (Rd v8 v8.heap.size 1 eA em ec (strs (endP ⟨xp,6,xs,xv⟩))):=ho4.out.rd;clear ho4 hem;have HKc:=Lib.hid (HKc.out.later hb9);have R:=Lib.hid (RdT.later R.out hb9);have RX:=Lib.hid (RX.out.later hb9);have HKR:=Lib.hid (HKR.out.later hb9);have HFR:=Lib.hid (HFR.out.later hb9);clear hb9;clear hHeld;refine Th hK ?_ (fun hHeld=>?_)
       ·exact HKc.out.cj
       clear hK K;refine Tc 5 (fun K hK=>?_);go_simp;(go_at_call 56;refine (refsees_any t Ae Ak ne nk ce ck xp 6 xs xv xA xn xc u m9 v8 HT.out N.out.1 R.out N.out.2.1 RX.out HU.out.1 HU.out.2.1 (by have:=HU.out.2.2;have:=N.out;have:=N2.out;omega)).mono ?_);rintro e v9 ⟨B9,d9,rfl,hru,hb9⟩;have RU:=Lib.hid hru;clear hru;have HKc:=Lib.hid (HKc.out.later hb9);have R:=Lib.hid (RdT.later R.out hb9);have RX:=Lib.hid (RX.out.later hb9);have HKR:=Lib.hid (HKR.out.later hb9);have HFR:=Lib.hid (HFR.out.later hb9);have RE:=Lib.hid (RE.out.later hb9);clear hb9;clear hHeld;refine Th hK ?_ (fun hHeld=>?_)
       ·exact HKc.out.cj
       clear hK K;refine Tc 6 (fun K hK=>?_);go_simp;obtain⟨vu,hvu,hvl⟩:=some_put HU.out.2.1 (by have:=HU.out.2.2;have:=N.out;have:=N2.out;omega) RU.out HU.out.1.right HD.out;obtain⟨q9,hq9⟩:∃ q,vu.length=q:=⟨_,rfl⟩;have HV:Hid (PutC uniF u (oneC a n) vu∧vu.length=q9∧q9≤4*nodes t+4):=⟨hvu,hq9,by have:=HU.out.2.2;omega⟩;clear hvu hvl hq9;(go_at_call 57;refine (refput_any (endP ⟨xp,6,xs,xv⟩) eA em ec a n xs xv u vu B9 m9 d9 q9 v9 (rd_len1 RE.out) RE.out HU.out.2.1 (by have:=HU.out.2.2;have:=N.out;have:=N2.out;omega) RU.out HU.out.1.right HRE.out HRW.out (by have h:=rd_len1 RE.out;have:=(end_keys HOK.out).2;omega) HV.out.1 HV.out.2.1 (by have:=HV.out.2.2;have:=N.out;have:=N2.out;omega)).mono ?_);rintro e v10 ⟨Xe,xe1,xe2,Xk,xk1,xk2,Xc,xc1,xc2,rfl,how,hb9⟩;have HOX:Hid (OwC v10 (r+1) (wrapT (oneT ⟨a,n,xs,xv⟩) (endP ⟨xp,6,xs,xv⟩),vu) Xe xe1 xe2 Xk xk1 xk2 Xc xc1 xc2):=OwC.mono how (Nat.succ_le_of_lt HFR.out.1)
       clear how;have HKc:=Lib.hid (HKc.out.later hb9);have R:=Lib.hid (RdT.later R.out hb9);have RX:=Lib.hid (RX.out.later hb9);have HKR:=Lib.hid (HKR.out.later hb9);have HFR:=Lib.hid (HFR.out.later hb9);have RE:=Lib.hid (RE.out.later hb9);have RU:=Lib.hid (RU.out.later hb9);clear hb9;obtain⟨z0,z1,z2,-⟩:=HKR.out.cj;have m0:=HFR.out.2 0;have m1:=HFR.out.2 1;have m2:=HFR.out.2 2;clear hHeld;refine Th hK ?_ (fun hHeld=>?_)
       ·exact HKc.out.cj
       clear hK K;refine Tc 7 (fun K hK=>?_);go_simp;refine Th hK ?_ (fun hHeld2=>?_)
       ·(try dsimp only)
        have h9:=HKc.out.st3 (g:=r) hwr (fun x hx=>by simp at hx;rcases hx with rfl | rfl | rfl | rfl | rfl | rfl | rfl | rfl | rfl | rfl | rfl | rfl <;> (dsimp only;omega)) (.slice Xe xe1 xe2) (.slice Xk xk1 xk2) (.slice Xc xc1 xc2)
        exact h9.cj
       clear hK K hHeld;have hHeld:=hHeld2;clear hHeld2;refine Tk 8 7 ?_;refine wpAnyH_done (by kernel_rfl) ?_ _;clear hHeld;obtain⟨z0,z1,z2,-⟩:=HKR.out.cj;have m0:=HFR.out.2 0;have m1:=HFR.out.2 1;have m2:=HFR.out.2 2;obtain⟨W9,hW9⟩:∃ W,W=((v10.setCell ⟨r,0,none⟩ (.slice Xe xe1 xe2)).setCell ⟨r,1,none⟩ (.slice Xk xk1 xk2)).setCell ⟨r,2,none⟩ (.slice Xc xc1 xc2):=⟨_,rfl⟩
       have HB9:Hid (Below w.heap.size w W9):=by
        unfold Hid;rw[hW9];exact ((HKc.out.below.setCell (p:=⟨r,0,none⟩) hwr _).setCell (p:=⟨r,1,none⟩) hwr _).setCell (p:=⟨r,2,none⟩) hwr _
       have HO9:Hid (OwC W9 w.heap.size (wrapT (oneT ⟨a,n,xs,xv⟩) (endP ⟨xp,6,xs,xv⟩),vu) Xe xe1 xe2 Xk xk1 xk2 Xc xc1 xc2):=by
        unfold Hid;rw[hW9];exact (HOX.out.set3 (Nat.lt_succ_self r) _ _ _).mono (by omega)
       have HLV:Hid (xc1≤4*nodes t+4):=by
        have h1:=HOX.out.len;have h2:=HV.out.2;dsimp only at h1;unfold Hid;omega
       have l0:W9.cell? ⟨r,0,none⟩=some (.slice Xe xe1 xe2):=by rw[hW9];go_simp
       have l1:W9.cell? ⟨r,1,none⟩=some (.slice Xk xk1 xk2):=by rw[hW9];go_simp
       have l2:W9.cell? ⟨r,2,none⟩=some (.slice Xc xc1 xc2):=by rw[hW9];go_simp
       have HW9:=Lib.hid hW9;clear hW9 z0 z1 z2 m0 m1 m2;rw[← HW9.out];go_wp2_with fail;refine bodyPost_ret (v:=.tuple #[.agg #[.slice Xe xe1 xe2,.slice Xk xk1 xk2,.slice Xc xc1 xc2],.int .i64 0]) (by simp[results,Tryz.results21,go_sem,l0,l1,l2]) rfl ⟨(wrapT (oneT ⟨a,n,xs,xv⟩) (endP ⟨xp,6,xs,xv⟩),vu),Xe,xe1,xe2,Xk,xk1,xk2,Xc,xc1,xc2,rfl,HO9.out,⟨fun _=>⟨⟨by rw[if_pos HBR.out,HEE.out],u,HU.out.1,HV.out.1⟩,HLV.out⟩,fun h=>absurd rfl h⟩,HB9.out⟩
      ·have f6:(xa==6)=false:=by simpa using h6
       have HS6:Hid ((if xa=6 then xs else⟨#[]⟩)=⟨#[]⟩):=if_neg h6
       obtain⟨o0,o1,o2,o3,o4,o5,o6,o7,-⟩:=HKc.out.cj;have hrs9:=HFR.out.1;obtain⟨b,hb⟩:∃ g,g=v5.heap.size:=⟨_,rfl⟩;obtain⟨v6,hv6⟩:∃ W,W=v5.alloc (.cells #[.int .i64 a,.int .i64 n,.string ⟨#[]⟩,.int .i64 xv] 97):=⟨_,rfl⟩
       have hb9:Below v5.heap.size v5 v6:=by rw[hv6];exact Dt.box_below _ _ _
       have b0:v6.cell? ⟨b,0,none⟩=some (.int .i64 a):=by rw[hv6,hb];go_simp
       have b1:v6.cell? ⟨b,1,none⟩=some (.int .i64 n):=by rw[hv6,hb];go_simp
       have b2:v6.cell? ⟨b,2,none⟩=some (.string ⟨#[]⟩):=by rw[hv6,hb];go_simp
       have b3:v6.cell? ⟨b,3,none⟩=some (.int .i64 xv):=by rw[hv6,hb];go_simp
       have HKc:=Lib.hid (HKc.out.later hb9);have R:=Lib.hid (RdT.later R.out hb9);have RX:=Lib.hid (RX.out.later hb9);have HKR:=Lib.hid (HKR.out.later hb9);have HFR:=Lib.hid (HFR.out.later hb9);clear hb9;have HKc:=Lib.hid ((((HKc.out.cons_of b3).cons_of b2).cons_of b1).cons_of b0);have Hb:=Lib.hid hb;have Hv6:=Lib.hid hv6;clear hb hv6 b0 b1 b2 b3
       have HRB:Hid (r<b∧w.heap.size≤b):=by unfold Hid;rw[Hb.out];exact⟨hrs9,by omega⟩
       clear hrs9;have hrb:r<b:=HRB.out.1;obtain⟨c0,c1,c2,c3,c4,c5,c6,c7,c8,c9,c10,c11,-⟩:=HKc.out.cj;rw[Hv6.out]at c0 c1 c2 c3 c4 c5 c6 c7 c8 c9 c10 c11;rw[Hb.out]at c0 c1 c2 c3;go_wp2_with fail;rw[← Hb.out,← Hv6.out];clear c0 c1 c2 c3 c4 c5 c6 c7 c8 c9 c10 c11;clear o0 o1 o2 o3 o4 o5 o6 o7
       have HEE:Hid (entOf ⟨(a,n),⟨xp,xa,xs,xv⟩,[]⟩=⟨a,n,⟨#[]⟩,xv⟩):=by
        unfold Hid entOf;dsimp only;rw[if_neg h6]
       have HRE:Hid (RightE ⟨a,n,⟨#[]⟩,xv⟩):=by
        have h:=right_ent HOK.out HD.out;rw[HEE.out]at h;exact h
       have HRW:Hid (RightT 5 (wrapT (oneT ⟨a,n,⟨#[]⟩,xv⟩) (endP ⟨xp,xa,xs,xv⟩))):=right_end HOK.out HRE.out;refine wp_region_held_drew (S:=Conj _) (by kernel_rfl) HKc.out.drew.cj (fun hHeld=>?_);obtain⟨v7,hv7⟩:∃ v,v=v6.drew:=⟨_,rfl⟩
       have hb9:Below v6.heap.size v6 v7:=by rw[hv7];exact (Below.refl _ _).drew
       have HKc:=Lib.hid (HKc.out.later hb9);have R:=Lib.hid (RdT.later R.out hb9);have RX:=Lib.hid (RX.out.later hb9);have HKR:=Lib.hid (HKR.out.later hb9);have HFR:=Lib.hid (HFR.out.later hb9);clear hb9;rw[← hv7]at hHeld ⊢;clear hv7;refine Tk 0 48 ?_;refine Tk 2 50 ?_;refine Tk 3 51 ?_;refine Tk 4 52 ?_;refine Tc 1 (fun K hK=>?_);go_simp;(go_at_call 58;refine (refend_any xp xa xs xv xA xn xc v7 N.out.2.1 RX.out).mono ?_);rintro e v8 ⟨eA,em,ec,rfl,ho4,hem,hb9⟩;have RE:Hid (Rd v8 v8.heap.size 1 eA em ec (strs (endP ⟨xp,xa,xs,xv⟩))):=ho4.out.rd;clear ho4 hem;have HKc:=Lib.hid (HKc.out.later hb9);have R:=Lib.hid (RdT.later R.out hb9);have RX:=Lib.hid (RX.out.later hb9);have HKR:=Lib.hid (HKR.out.later hb9);have HFR:=Lib.hid (HFR.out.later hb9);clear hb9;clear hHeld;refine Th hK ?_ (fun hHeld=>?_)
       ·exact HKc.out.cj
       clear hK K;refine Tc 5 (fun K hK=>?_);go_simp;(go_at_call 56;refine (refsees_any t Ae Ak ne nk ce ck xp xa xs xv xA xn xc u m9 v8 HT.out N.out.1 R.out N.out.2.1 RX.out HU.out.1 HU.out.2.1 (by have:=HU.out.2.2;have:=N.out;have:=N2.out;omega)).mono ?_);rintro e v9 ⟨B9,d9,rfl,hru,hb9⟩;have RU:=Lib.hid hru;clear hru;have HKc:=Lib.hid (HKc.out.later hb9);have R:=Lib.hid (RdT.later R.out hb9);have RX:=Lib.hid (RX.out.later hb9);have HKR:=Lib.hid (HKR.out.later hb9);have HFR:=Lib.hid (HFR.out.later hb9);have RE:=Lib.hid (RE.out.later hb9);clear hb9;clear hHeld;refine Th hK ?_ (fun hHeld=>?_)
       ·exact HKc.out.cj
       clear hK K;refine Tc 6 (fun K hK=>?_);go_simp;obtain⟨vu,hvu,hvl⟩:=some_put HU.out.2.1 (by have:=HU.out.2.2;have:=N.out;have:=N2.out;omega) RU.out HU.out.1.right HD.out;obtain⟨q9,hq9⟩:∃ q,vu.length=q:=⟨_,rfl⟩;have HV:Hid (PutC uniF u (oneC a n) vu∧vu.length=q9∧q9≤4*nodes t+4):=⟨hvu,hq9,by have:=HU.out.2.2;omega⟩;clear hvu hvl hq9;(go_at_call 57;refine (refput_any (endP ⟨xp,xa,xs,xv⟩) eA em ec a n ⟨#[]⟩ xv u vu B9 m9 d9 q9 v9 (rd_len1 RE.out) RE.out HU.out.2.1 (by have:=HU.out.2.2;have:=N.out;have:=N2.out;omega) RU.out HU.out.1.right HRE.out HRW.out (by have h:=rd_len1 RE.out;have:=(end_keys HOK.out).2;omega) HV.out.1 HV.out.2.1 (by have:=HV.out.2.2;have:=N.out;have:=N2.out;omega)).mono ?_);rintro e v10 ⟨Xe,xe1,xe2,Xk,xk1,xk2,Xc,xc1,xc2,rfl,how,hb9⟩;have HOX:Hid (OwC v10 (r+1) (wrapT (oneT ⟨a,n,⟨#[]⟩,xv⟩) (endP ⟨xp,xa,xs,xv⟩),vu) Xe xe1 xe2 Xk xk1 xk2 Xc xc1 xc2):=OwC.mono how (Nat.succ_le_of_lt HFR.out.1)
       clear how;have HKc:=Lib.hid (HKc.out.later hb9);have R:=Lib.hid (RdT.later R.out hb9);have RX:=Lib.hid (RX.out.later hb9);have HKR:=Lib.hid (HKR.out.later hb9);have HFR:=Lib.hid (HFR.out.later hb9);have RE:=Lib.hid (RE.out.later hb9);have RU:=Lib.hid (RU.out.later hb9);clear hb9;obtain⟨z0,z1,z2,-⟩:=HKR.out.cj;have m0:=HFR.out.2 0;have m1:=HFR.out.2 1;have m2:=HFR.out.2 2;clear hHeld;refine Th hK ?_ (fun hHeld=>?_)
       ·exact HKc.out.cj
       clear hK K;refine Tc 7 (fun K hK=>?_);go_simp;refine Th hK ?_ (fun hHeld2=>?_)
       ·(try dsimp only)
        have h9:=HKc.out.st3 (g:=r) hwr (fun x hx=>by simp at hx;rcases hx with rfl | rfl | rfl | rfl | rfl | rfl | rfl | rfl | rfl | rfl | rfl | rfl <;> (dsimp only;omega)) (.slice Xe xe1 xe2) (.slice Xk xk1 xk2) (.slice Xc xc1 xc2)
        exact h9.cj
       clear hK K hHeld;have hHeld:=hHeld2;clear hHeld2;refine Tk 8 7 ?_;refine wpAnyH_done (by kernel_rfl) ?_ _;clear hHeld;obtain⟨z0,z1,z2,-⟩:=HKR.out.cj;have m0:=HFR.out.2 0;have m1:=HFR.out.2 1;have m2:=HFR.out.2 2;obtain⟨W9,hW9⟩:∃ W,W=((v10.setCell ⟨r,0,none⟩ (.slice Xe xe1 xe2)).setCell ⟨r,1,none⟩ (.slice Xk xk1 xk2)).setCell ⟨r,2,none⟩ (.slice Xc xc1 xc2):=⟨_,rfl⟩
       have HB9:Hid (Below w.heap.size w W9):=by
        unfold Hid;rw[hW9];exact ((HKc.out.below.setCell (p:=⟨r,0,none⟩) hwr _).setCell (p:=⟨r,1,none⟩) hwr _).setCell (p:=⟨r,2,none⟩) hwr _
       have HO9:Hid (OwC W9 w.heap.size (wrapT (oneT ⟨a,n,⟨#[]⟩,xv⟩) (endP ⟨xp,xa,xs,xv⟩),vu) Xe xe1 xe2 Xk xk1 xk2 Xc xc1 xc2):=by
        unfold Hid;rw[hW9];exact (HOX.out.set3 (Nat.lt_succ_self r) _ _ _).mono (by omega)
       have HLV:Hid (xc1≤4*nodes t+4):=by
        have h1:=HOX.out.len;have h2:=HV.out.2;dsimp only at h1;unfold Hid;omega
       have l0:W9.cell? ⟨r,0,none⟩=some (.slice Xe xe1 xe2):=by rw[hW9];go_simp
       have l1:W9.cell? ⟨r,1,none⟩=some (.slice Xk xk1 xk2):=by rw[hW9];go_simp
       have l2:W9.cell? ⟨r,2,none⟩=some (.slice Xc xc1 xc2):=by rw[hW9];go_simp
       have HW9:=Lib.hid hW9;clear hW9 z0 z1 z2 m0 m1 m2;rw[← HW9.out];go_wp2_with fail;refine bodyPost_ret (v:=.tuple #[.agg #[.slice Xe xe1 xe2,.slice Xk xk1 xk2,.slice Xc xc1 xc2],.int .i64 0]) (by simp[results,Tryz.results21,go_sem,l0,l1,l2]) rfl ⟨(wrapT (oneT ⟨a,n,⟨#[]⟩,xv⟩) (endP ⟨xp,xa,xs,xv⟩),vu),Xe,xe1,xe2,Xk,xk1,xk2,Xc,xc1,xc2,rfl,HO9.out,⟨fun _=>⟨⟨by rw[if_pos HBR.out,HEE.out],u,HU.out.1,HV.out.1⟩,HLV.out⟩,fun h=>absurd rfl h⟩,HB9.out⟩
  ·have HNE:Hid (¬e0=0):=hz0
   have f0:(e0==0)=false:=by simpa using hz0
   clear hz0
   have hz1:e0=er:=by
    rw[← HER.out];unfold appE;rw[if_neg HNT.out,if_pos (by rw[HE0.out];exact HNE.out)];exact HE0.out.symm
   subst hz1;obtain⟨z0,z1,z2,-⟩:=HKR.out.cj;have m0:=HFR.out.2 0;have m1:=HFR.out.2 1;have m2:=HFR.out.2 2;obtain⟨W9,hW9⟩:∃ W,W=((v2.setCell ⟨r,0,none⟩ (.slice none 0 0)).setCell ⟨r,1,none⟩ (.slice none 0 0)).setCell ⟨r,2,none⟩ (.slice none 0 0):=⟨_,rfl⟩
   have HB9:Hid (Below w.heap.size w W9):=by
    unfold Hid;rw[hW9];exact ((HKc.out.below.setCell (p:=⟨r,0,none⟩) hwr _).setCell (p:=⟨r,1,none⟩) hwr _).setCell (p:=⟨r,2,none⟩) hwr _
   have l0:W9.cell? ⟨r,0,none⟩=some (.slice none 0 0):=by rw[hW9];go_simp
   have l1:W9.cell? ⟨r,1,none⟩=some (.slice none 0 0):=by rw[hW9];go_simp
   have l2:W9.cell? ⟨r,2,none⟩=some (.slice none 0 0):=by rw[hW9];go_simp
   have HW9:=Lib.hid hW9;clear hW9;go_wp2_with fail;rw[← HW9.out];refine bodyPost_ret (v:=.tuple #[.agg #[.slice none 0 0,.slice none 0 0,.slice none 0 0],.int .i64 e0]) (by simp[results,Tryz.results21,go_sem,l0,l1,l2]) rfl ⟨noneK,none,0,0,none,0,0,none,0,0,rfl,OwC.no _ _,⟨fun h=>absurd h HNE.out,fun _=>rfl⟩,HB9.out⟩
end Cs
end Go.Proofs.YtgeafpaognhokaaGreat
