/- Texts of the lower layers, and of layer 9, put together. -/
import Derived.Test.YtgeafpaognhokaaGreatG00
import Derived.Test.YtgeafpaognhokaaGreatCtx1
import Derived.Test.YtgeafpaognhokaaGreatSpanJoin
import Derived.Test.YtgeafpaognhokaaGreatTreeRight
import Derived.RangeFuncBox
import Derived.RangeFuncLeaves
import Derived.Shelf.Abstract
import Derived.WalkKit
import Derived.OwnWalkIn
import Derived.TacticsInMore
import Derived.LoopNIn
import Derived.LoopIn
import Derived.Maps.AppendAt
import Derived.Sort.OwnSorted
import Derived.Test.YtgeafpaognhokaaGreatTreeSearch
import Derived.Test.YtgeafpaognhokaaGreatG01
import Derived.Test.YtgeafpaognhokaaGreatSpanBy
import Derived.Test.YtgeafpaognhokaaGreatTreeRefSame
import Derived.SizedLaws
import Derived.ProofKit
import Derived.OpenShut
import Derived.ChangeMaps5
import Derived.Laws.IdiomArrays
import Derived.Deep.Strs
namespace Go.Proofs.YtgeafpaognhokaaGreat
section
open ChangeShapes WideShapes ChangeAt RowKit
namespace Cx
open Sp Rw
theorem KI (w:World) (s:Nat→SV) (d:Nat) (hd:d<4):(w.alloc (.cells #[.slice (s 0).A (s 0).n (s 0).c,.slice (s 1).A (s 1).n (s 1).c,.slice (s 2).A (s 2).n (s 2).c,.slice (s 3).A (s 3).n (s 3).c] 183)).cell? ⟨w.heap.size,d,none⟩=some (.slice (s d).A (s d).n (s d).c):=by
 rw[cell_of_row _ _ d _ _ (0,0) (heap_alloc_new _ _)]
 rcases (by omega:d=0∨d=1∨d=2∨d=3)with rfl | rfl | rfl | rfl <;> rfl
set_option maxHeartbeats 400000 in
theorem jW (l:List S3) (n:Nat) (A:Option Addr) (c:Nat) (w:World) (f:l.length=n) (i:n≤100000) (g:Rd w w.heap.size 3 A n c (aP l)) (b:Bool) (d:bA l=b) :
  Calls Tryz.prog 129 #[.slice A n c] w fun e w'=>e = .returned (.bool b)∧av w w':=by
 have h:=ah (qJ l n A c w f i g b d);clear f g d;go_enter Tryz.func129,Tryz.ntmps129;go_wp2_with (go_at_call 162;refine h.mono ?_;rintro e w1 ⟨s,rfl,HS,a⟩);go_ret;exact⟨rfl,a.alloc a.size _⟩
theorem Aw.later {w w':World} {s:SV} {r:List (Int×Int)} (h:Aw w s r) (a:av w w'):Aw w' s r:=⟨h.1,h.2.later a⟩
instance {s:SV} {r:List (Int×Int)} {v v':World} : fE v v' (Aw v s r) (Aw v' s r):=⟨fun h hb=>h.later hb⟩
theorem Dq {l:List S3} {b:Bool} (a:bA l=b) (d:Nat) (hd:d<4):aB 1 (if b then part l d else []):=by
 cases b with
 | true=>exact (EX a).part d (by unfold ny;omega)
 | false=>trivial
theorem Dr {l:List (Int×Int)} (h:aB 1 l):ak l=true:=by unfold ak;exact aJ h
end Cx
namespace Rw
open Sp
structure dN (W:World) (h:Nat) (v:Nat→Value):Prop where
 free:aA h W
 cell:∀ j,j<4→W.cell? ⟨h,j,none⟩=some (v j)
namespace dN
variable {W W':World} {h:Nat} {v:Nat→Value}
theorem later (c:dN W h v) (a:av W W'):dN W' h v:=⟨c.free.later a,fun j b=>(a.cell (p:=⟨h,j,none⟩) c.free.1).trans (c.cell j b)⟩
theorem new (W:World) (v:Nat→Value) (a b c d:Value) (t:TypeId) (e:(#[a,b,c,d]:Array Value)=#[v 0,v 1,v 2,v 3]):dN (W.alloc (.cells #[a,b,c,d] t)) W.heap.size v:=by
 rw[e];refine⟨⟨by simp,fun j=>by go_simp⟩,fun j hj=>?_⟩;rw[cell_of_row _ _ j _ _ (0,0) (heap_alloc_new _ _)]
 rcases (by omega:j=0∨j=1∨j=2∨j=3)with rfl | rfl | rfl | rfl <;> rfl
theorem set (c:dN W h v) {d:Nat} (hd:d<4) (u:Value):dN (W.setCell ⟨h,d,none⟩ u) h (upd v d u):=by
 refine⟨c.free.set _ _,fun j b=>?_⟩
 by_cases a:j=d
 ·subst a
  rw[upd_same];have k0:=c.cell j b;have m0:=c.free.2 j;go_simp
 ·rw[bZ _ _ a,oW W ⟨h,d,none⟩ ⟨h,j,none⟩ _ (fun e=>by injection e with _ e;exact a e.symm)]
  exact c.cell j b
theorem other (c:dN W h v) {a:Addr} (b:a.block≠h) (u:Value):dN (W.setCell a u) h v:=
 ⟨c.free.set _ _,fun j d=>(oW W a ⟨h,j,none⟩ u (fun e=>b (by rw[e]))).trans (c.cell j d)⟩
theorem congr (c:dN W h v) {v':Nat→Value} (e:∀ j,j<4→v j=v' j):dN W h v':=⟨c.free,fun j a=>by rw[← e j a];exact c.cell j a⟩
theorem put (c:dN W h v) (a b d e:Value):(Cx.mZ h a b d e W).cell? ⟨h,0,none⟩=some a∧(Cx.mZ h a b d e W).cell? ⟨h,1,none⟩=some b∧(Cx.mZ h a b d e W).cell? ⟨h,2,none⟩=some d∧(Cx.mZ h a b d e W).cell? ⟨h,3,none⟩=some e:=
 Cx.oN c.free (c.cell 0 (by omega)) (c.cell 1 (by omega)) (c.cell 2 (by omega)) (c.cell 3 (by omega))
end dN
theorem Bq {w:World} {d sz n c:Nat} {A:Option Addr} {xs:List Value} (h:Rb w d sz A n c xs) {a:Addr} (f:a.block<d) (u:Value):Rb (w.setCell a u) d sz A n c xs:=
 ⟨h.len,h.cap,h.one,fun m=>by
  obtain⟨b,o,e,l,i,k⟩:=h.at_ m
  exact⟨b,o,e,l,by simpa [World.setCell] using i,fun j p hu=>(oW w a ⟨b,o+j,none⟩ u (fun g=>by rw[g]at f;dsimp only at f;omega)).trans (k j p hu)⟩⟩
end Rw
namespace Sp
theorem qC {P : Program} {f : FuncId} {b : Func} {c : Code} (g : P.funcs[f]? = some b) (a : (b.name == "runtime.NumGoroutine") = false) (e : b.body = some c) (args : Array Value) (w : World) : (callFunc f args).run P w = .ok (.enter f args) w := by
 have d : b.name ≠ "runtime.NumGoroutine" := by simpa using a
 simp[callFunc,g,d,e,mark]
def l6 (x y:Bool):Bool:=x||y
def EQ (x y:Bool):Bool:=x && !y
set_option maxHeartbeats 400000 in
theorem IA (a b:List (Int×Int)) (n m:Nat) (A B:Option Addr) (c d:Nat) (w:World) (f:a.length=n) (g:b.length=m) (s:n≤100000) (r:m≤100000) (h:Rd w w.heap.size 2 A n c (aS a)) (i:Rd w w.heap.size 2 B m d (aS b)) (j:aB 1 a) (k:aB 1 b) :
  Calls Tryz.prog 156 #[.slice A n c,.slice B m d] w (ug l6 a b w):=by
 have p:=ah (Cw l6 rfl 188 Kw (qC Tryz.func188 (by kernel_rfl) rfl) a b n m A B c d w f g s r h i j k);clear h i f g j k;go_enter Tryz.func156,Tryz.ntmps156;go_wp2_with (go_at_call 187;refine p.mono ?_;rintro e w1 ⟨l,A1,c1,rfl,u,t,q⟩);go_ret;exact⟨l,_,_,rfl,u,t,q⟩
set_option maxHeartbeats 400000 in
theorem H8 (a b:List (Int×Int)) (n m:Nat) (A B:Option Addr) (c d:Nat) (w:World) (f:a.length=n) (g:b.length=m) (s:n≤100000) (r:m≤100000) (h:Rd w w.heap.size 2 A n c (aS a)) (i:Rd w w.heap.size 2 B m d (aS b)) (j:aB 1 a) (k:aB 1 b) :
  Calls Tryz.prog 177 #[.slice A n c,.slice B m d] w (ug EQ a b w):=by
 have p:=ah (Cw EQ rfl 213 JJ (qC Tryz.func213 (by kernel_rfl) rfl) a b n m A B c d w f g s r h i j k);clear h i f g j k;go_enter Tryz.func177,Tryz.ntmps177;go_wp2_with (go_at_call 187;refine p.mono ?_;rintro e w1 ⟨l,A1,c1,rfl,u,t,q⟩);go_ret;exact⟨l,_,_,rfl,u,t,q⟩
end Sp
namespace Cx
open Sp Rw
def pre (q:Nat→List (Int×Int)):Nat→List S3
 | 0=>[]
 | d+1=>pre q d++dF d (q d)
theorem qd (q:Nat→List (Int×Int)):pre q 4=glue fun i=>q i.toNat:=by simp[pre,glue]
theorem Fz {d:Int} {l:List (Int×Int)} {k:Nat} (h:k<l.length) {r:Int×Int} (a:r=l[k]):dF d (l.take (k+1))=dF d (l.take k)++[(d,r)]:=by
 rw[dZ h,← a];simp[dF]
theorem gV (d:Int) (l:List (Int×Int)):(dF d l).length=l.length:=by simp[dF]
theorem wK {q:Nat→List (Int×Int)} {M:Nat} (h:∀ d,d<4→(q d).length≤M):∀ d,d≤4→(pre q d).length≤d*M
 | 0,_=>by simp[pre]
 | d+1,hd=>by
  have h1:=wK h d (by omega);have h2:=h d (by omega);simp only[pre,bP,gV];rw[Nat.succ_mul];omega
def LV (base:Nat) (l:List S3) (w:World) (e:Ending) (w':World):Prop:=∃ A c,e = .returned (.slice A l.length c)∧Own w' base 117 3 A l.length c (aP l)∧Below base w w'
set_option maxRecDepth 100000 in
set_option maxHeartbeats 1000000 in
theorem vE (s:Nat→SV) (q:Nat→List (Int×Int)) (w:World) (hq:∀ d,d<4→Aw w (s d) (q d)) (hn:∀ d,d<4→(q d).length≤200000) :
  Calls Tryz.prog 168 #[.agg #[.slice (s 0).A (s 0).n (s 0).c,.slice (s 1).A (s 1).n (s 1).c,.slice (s 2).A (s 2).n (s 2).c,.slice (s 3).A (s 3).n (s 3).c]] w (LV w.heap.size (pre q 4) w):=by
 have c0:=KI w s 0 (by omega);have c1:=KI w s 1 (by omega);have c2:=KI w s 2 (by omega);have c3:=KI w s 3 (by omega);have HQ:=ah hq;have HN:=ah hn;clear hq hn;go_enter Tryz.func168,Tryz.ntmps168;go_wp2;clear c0 c1 c2 c3
 go_loopw [3,9] (fun v i wr=>∃ (d m:Nat) (z:Option Addr) (B:Nat),d≤4∧v = .slice z m B∧i = .int .i64 d∧ai (m=(pre q d).length)∧ai (Own wr w.heap.size 117 3 z m B (aP (pre q d)))∧ai (av w wr)) (fun _ i _=>4-(intOf i).toNat)
 case atStart=>exact⟨0,0,none,0,by omega,rfl,rfl,rfl,⟨iy _ _ _ _,by simp[pre,aP]⟩,(bN).alloc (bG) _⟩
 case round=>
  obtain⟨d,m,z,B,hd,rfl,rfl,U,HO,Y⟩:=hrel
  by_cases D:d<4
  ·have J:=vG s d D
   obtain⟨sA,u,sc,W⟩:∃ sA u sc,s d=⟨sA,u,sc⟩:=⟨_,_,_,rfl⟩;obtain⟨l,V⟩:∃ l,l=q d:=⟨_,rfl⟩
   have g:ai (l.length=u∧Rd w w.heap.size 2 sA u sc (aS l)):=by
    have:=HQ.o d D;rw[W,← V]at this;exact this
   rw[W]at J;dsimp only at J
   have M:l.length≤200000:=by rw[V];exact HN.o d D
   have HP:ai (pre q (d+1)=pre q d++dF d l):=ah (by rw[V];rfl)
   have Q:=wK HN d (by omega);rw[← U.o]at Q
   have hpl2:m≤800000:=by have:d*200000≤4*200000:=Nat.mul_le_mul_right _ (by omega);omega
   have hsn:u≤200000:=by rw[← g.o.1];exact M
   have HS:=ah W;clear W V Q M;go_wp2
   go_loopw [3,15] (fun v i wr=>∃ (k S:Nat) (z:Option Addr) (B:Nat),k≤u∧v = .slice z S B∧i = .int .i64 k∧ai (S=(pre q d++dF d (l.take k)).length)∧ai (Own wr w.heap.size 117 3 z S B (aP (pre q d++dF d (l.take k))))∧ai (av w wr)) (fun _ i _=>u-(intOf i).toNat)
   case atStart=>exact⟨0,m,z,B,by omega,rfl,rfl,(by unfold ai;rw[U.o];simp[dF]),(by unfold ai;rw[List.take_zero];simpa [dF] using HO.o),Y⟩
   case round=>
    clear HO Y U;obtain⟨k,S,A2,c2,hk,rfl,rfl,e,j,f⟩:=hrel
    by_cases N:k<u
    ·have L:k<l.length:=by rw[g.o.1];exact N
     obtain⟨b,o,rfl,H,hc⟩:=qh g.2 g.1 N;obtain⟨q0,q1⟩:=hc k L;obtain⟨p,hp⟩:∃ p,p=l[k]:=⟨_,rfl⟩;have R:=Fz (d:=(d:Int)) L hp;rw[← hp]at q0 q1;obtain⟨x,y⟩:=p;have q0:=(f.cell (p:=⟨b,o+k*2,none⟩) H).trans q0;have q1:=(f.cell (p:=⟨b,o+k*2+1,none⟩) H).trans q1;have C:=f.alloc f.size (.cells #[.int .i64 x,.int .i64 y] 214);have h:=(j.row).alloc (.cells #[.int .i64 x,.int .i64 y] 214);rw[e.o]at h
     have O:(pre q d++dF d (l.take k)).length≤900000:=by rw[← e.o,e.o,bP,gV,l7];have:=wK HN d (by omega);have h4:d*200000≤3*200000:=Nat.mul_le_mul_right _ (by omega);omega
     obtain⟨A3,c3,w3,a,t,G⟩:=push wL BH Tryz.underlying40 vH rfl (by omega) (by omega) (wr.alloc (.cells #[.int .i64 x,.int .i64 y] 214)) w.heap.size (wr.heap.size+1) (by simp) C.size _ (pre q d++dF d (l.take k)) h ((d:Int),x,y) #[.int .i64 d,.int .i64 x,.int .i64 y] rfl O;rw[oh,← R]at a t;rw[← e.o]at a;obtain⟨X,r⟩:∃ X,X=(pre q d++dF d (l.take (k+1))).length:=⟨_,rfl⟩;have e3:aP (pre q d++dF d (l.take (k+1)))=(pre q d++dF d (l.take (k+1))).flatMap LM:=rfl;rw[← e3,← r]at t;rw[← r]at a;have F:=ah a;have Ny:=ah t;have HB3:=ah (C.trans G);have Z:=ah r;clear hc hp a t G C h R r e3 j O;go_wp2_with (at_builtin;refine Lib.wpList_append_run _ rfl _ _ _ _ rfl _ _ rfl rfl _ _ F ?_)
     refine⟨⟨.slice A3 X c3,_,.int .i64 ((k:Int)+1),⟨k+1,by omega,X,A3,c3,rfl,by go_num,?_,Ny⟩,rfl,rfl,rfl⟩,by simp[intOf];omega⟩;have:=Z.o
     rwa [bP]at this
    ·obtain rfl:k=u:=by omega
     have HE:ai (l.take k=l):=eO (by rw[g.o.1];omega);rw[HE.o,← HP.o]at j e;go_wp2;go_roundw
     case rel=>exact⟨d+1,S,A2,c2,by omega,rfl,by go_num,e,j,f⟩
     case measure=>simp[intOf];omega
  ·obtain rfl:d=4:=by omega
   have hm:=U.o;subst hm;go_wp2;go_ret;exact⟨_,_,rfl,HO,Y⟩
end Cx
namespace Cx
open Sp Rw
def Em (f:Bool→Bool→Bool) (a b:List S3) (n m:Nat) (w:World) (e:Ending) (w':World):Prop:=
  ∃ u q A' c',e = .returned (.slice A' q c')∧ai (u.length=q)∧ai (iW f a b u)∧q≤n+m∧ai (Own w' w.heap.size 117 3 A' q c' (aP u))∧av w w'
def LZ (f:Bool→Bool→Bool) (F:FuncId):Prop:=
  ∀ (a b:List (Int×Int)) (n m:Nat) (A B:Option Addr) (c d:Nat) (w:World),a.length=n→b.length=m→n≤100000→m≤100000→Rd w w.heap.size 2 A n c (aS a)→Rd w w.heap.size 2 B m d (aS b)→aB 1 a→aB 1 b→Calls Tryz.prog F #[.slice A n c,.slice B m d] w (ug f a b w)
theorem zV (a:List S3):(part a 0).length+(part a 1).length+(part a 2).length+(part a 3).length≤a.length:=by
  induction a with
  | nil=>simp[tu]
  | cons s a ih=>
    rw[eu,eu,eu,eu,lY]
    by_cases b:s.1=0
    · rw[if_pos b,if_neg (by omega),if_neg (by omega),if_neg (by omega),lY];omega
    · rw[if_neg b]
      by_cases c:s.1=1
      · rw[if_pos c,if_neg (by omega),if_neg (by omega),lY];omega
      · rw[if_neg c]
        by_cases d:s.1=2
        · rw[if_pos d,if_neg (by omega),lY];omega
        · rw[if_neg d]
          by_cases e:s.1=3
          · rw[if_pos e,lY];omega
          · rw[if_neg e];omega
theorem Lp {f:Bool→Bool→Bool} {a b:List S3} {r:Nat→List (Int×Int)} (h:∀ d:Nat,d<4→Put f (part a d) (part b d) (r d)):iW f a b (pre r 4):=by
  rw[qd];refine iW.of fun d hd=>?_
  have e:((d.toNat:Nat):Int)=d:=by have:=hd.1;omega
  have c:=h d.toNat (by have:=hd.1;have:=hd.2;omega);rw[e]at c;exact⟨c.right,c.has⟩
theorem LD (w:World) (s:Nat→SV):dN (w.alloc (.cells #[.slice (s 0).A (s 0).n (s 0).c,.slice (s 1).A (s 1).n (s 1).c,.slice (s 2).A (s 2).n (s 2).c,.slice (s 3).A (s 3).n (s 3).c] 183)) w.heap.size (fun j=>.slice (s j).A (s j).n (s j).c):=
  dN.new w _ _ _ _ _ _ rfl
set_option maxRecDepth 100000 in
set_option maxHeartbeats 2000000 in
theorem zJ (f:Bool→Bool→Bool) (F:FuncId) (hF:LZ f F) (eF:∀ args W,(callFunc F args).run Tryz.prog W = .ok (.enter F args) W) (a b:List S3) (n m:Nat) (A B:Option Addr) (c d:Nat) (w:World) (NC:a.length=n) (NE:b.length=m) (hn:n≤50000) (hm:m≤50000) (NS:Rd w w.heap.size 3 A n c (aP a)) (NT:Rd w w.heap.size 3 B m d (aP b)) (ha:aH a) (hb:aH b) :
    Calls Tryz.prog 155 #[.slice A n c,.slice B m d,.func (.func F) #[] #[]] w (Em f a b n m w):=by
  have NG:=ah (qJ a n A c w NC (by omega) NS true (fK ha));have NH:=fun W (h:av w W)=>ah (qJ b m B d W NE (by omega) ((NT.below h).more h.size) true (fK hb));have Nz:=ah NC;have N7:=ah NE;have Oc:=ah ha;have Od:=ah hb;have HF:=ah hF;clear NC NE NS NT ha hb hF;go_enter Tryz.func155,Tryz.ntmps155;go_wp2_with fail;refine NG.mono ?_;rintro e w1 ⟨s,rfl,HS,U⟩;obtain⟨p,hp⟩:∃ p,p=w1.heap.size:=⟨_,rfl⟩;obtain⟨W1,S⟩:∃ W,W=w1.alloc (.cells #[.slice (s 0).A (s 0).n (s 0).c,.slice (s 1).A (s 1).n (s 1).c,.slice (s 2).A (s 2).n (s 2).c,.slice (s 3).A (s 3).n (s 3).c] 183):=⟨_,rfl⟩
  have hpw:w.heap.size≤p:=by rw[hp];exact U.size
  have J:av w1 W1:=by rw[S];exact (bN).alloc (bG) _
  have R:=ah (U.trans (J.mono U.size))
  have N8:ai (dN W1 p (fun j=>.slice (s j).A (s j).n (s j).c)):=by rw[S,hp];exact LD w1 s
  have N9:ai (∀ d:Nat,d<4→Aw W1 (s d) (part a d)):=fun d hd=>(HS.o d hd).later J;have NQ:=ah S;have NI:=ah hp;clear U J HS S hp;go_wp2_with fail;rw[← NI.o,← NQ.o];refine (NH W1 R).o.mono ?_;rintro e w2 ⟨t,rfl,HT,L⟩;obtain⟨g,x⟩:∃ p,p=w2.heap.size:=⟨_,rfl⟩;obtain⟨Y,H⟩:∃ W,W=(w2.alloc (.cells #[.slice (t 0).A (t 0).n (t 0).c,.slice (t 1).A (t 1).n (t 1).c,.slice (t 2).A (t 2).n (t 2).c,.slice (t 3).A (t 3).n (t 3).c] 183)).alloc (.cells #[.slice none 0 0,.slice none 0 0,.slice none 0 0,.slice none 0 0] 183):=⟨_,rfl⟩;have M:av w2 (w2.alloc (.cells #[.slice (t 0).A (t 0).n (t 0).c,.slice (t 1).A (t 1).n (t 1).c,.slice (t 2).A (t 2).n (t 2).c,.slice (t 3).A (t 3).n (t 3).c] 183)):=(bN).alloc (bG) _
  have y:av w2 Y:=by rw[H];exact M.alloc M.size _
  have N:=L.trans (y.mono L.size);have NU:=ah (R.trans (N.mono R.size));have NJ:ai (dN Y p (fun j=>.slice (s j).A (s j).n (s j).c)):=N8.later N
  have NK:ai (dN Y g (fun j=>.slice (t j).A (t j).n (t j).c)):=by
    rw[H,x];exact (LD w2 t).later ((bN).alloc (bG) _)
  have NM:ai (dN Y (g+1) (fun _=>.slice none 0 0)):=by
    have:=dN.new (w2.alloc (.cells #[.slice (t 0).A (t 0).n (t 0).c,.slice (t 1).A (t 1).n (t 1).c,.slice (t 2).A (t 2).n (t 2).c,.slice (t 3).A (t 3).n (t 3).c] 183)) (fun _=>.slice none 0 0) (.slice none 0 0) (.slice none 0 0) (.slice none 0 0) (.slice none 0 0) 183 rfl;rw[H,x];unfold ai
    simpa using this
  have NN:ai (∀ d:Nat,d<4→(part a d).length=(s d).n∧Rd Y g 2 (s d).A (s d).n (s d).c (aS (part a d))):=fun d hd=>⟨(N9.o d hd).1,by rw[x];exact (((N9.o d hd).2.later L).below y)⟩;have NP:ai (∀ d:Nat,d<4→(part b d).length=(t d).n∧Rd Y g 2 (t d).A (t d).n (t d).c (aS (part b d))):=fun d hd=>⟨(HT.o d hd).1,by rw[x];exact ((HT.o d hd).2.below y)⟩
  have hpp:p<g:=by rw[x];exact cO N8.free.1 L.size
  have NR:=ah H;have X:=ah x;clear L M y N HT N9 N8 H x;go_wp2;rw[← X.o,← NR.o];clear NG NH R NQ NI NR X
  go_loopw [29] (fun i wr=>∃ (d:Nat) (u:Nat→SV) (r:Nat→List (Int×Int)),d≤4∧i = .int .i64 d∧ai (dN wr (g+1) (fun j=>.slice (u j).A (u j).n (u j).c))∧ai (∀ j:Nat,j<d→(r j).length=(u j).n∧Rb wr (g+2) 2 (u j).A (u j).n (u j).c (aS (r j))∧Put f (part a j) (part b j) (r j))∧ai (Below (g+1) Y wr)) (fun i _=>4-(intOf i).toNat)
  case atStart=>exact⟨0,fun _=>L6,fun _=>[],by omega,rfl,NM,fun j V=>by omega,bN⟩
  case round=>
    obtain⟨d,u,r,hd,rfl,HU,Q,C⟩:=hrel;clear NM
    by_cases v:d<4
    · have hps:g+1<wr.heap.size:=HU.free.1
      obtain⟨sA,sn,sc,hs⟩:∃ sA sn sc,s d=⟨sA,sn,sc⟩:=⟨_,_,_,rfl⟩;obtain⟨tA,tn,tc,ht⟩:∃ tA tn tc,t d=⟨tA,tn,tc⟩:=⟨_,_,_,rfl⟩;have k0:=(C.cell (p:=⟨p,d,none⟩) (by show p<g+1;omega)).trans (NJ.cell d v);have k1:=(C.cell (p:=⟨g,d,none⟩) (by show g<g+1;omega)).trans (NK.cell d v);have k2:=HU.cell d v;have D:=NN.o d v;have G:=NP.o d v;rw[hs]at k0 D;rw[ht]at k1 G;dsimp only at k0 k1 D G;have NA:=C.trans ((Below.refl wr.heap.size wr).drew.mono (by omega))
      have NY:ai (Calls Tryz.prog F #[.slice sA sn sc,.slice tA tn tc] wr.drew fun e w'=>∃ l A q c,e = .returned (.slice A q c)∧ai (l.length=q∧Rb w' (g+2) 2 A q c (aS l)∧Put f (part a d) (part b d) l)∧av wr w'):=by
        refine (HF.o (part a d) (part b d) sn tn sA tA sc tc wr.drew D.1 G.1 (by have:=iH a d;have:=Nz.o;have:=D.1;omega) (by have:=iH b d;have:=N7.o;have:=G.1;omega)
          (((D.2.below (NA.mono (by omega))).more (by show g≤wr.heap.size;omega))) (((G.2.below (NA.mono (by omega))).more (by show g≤wr.heap.size;omega)))
          (Oc.part d (by unfold ny;omega)) (Od.part d (by unfold ny;omega))).mono ?_
        rintro e w' ⟨l,A',c',rfl,hp,ho,hb⟩;exact⟨l,A',l.length,c',rfl,⟨rfl,(ho.rb).mono (by show g+2≤wr.heap.size;omega),hp⟩,((bN).drew).trans hb⟩
      have hne1:p≠g+1:=by omega
      have hne2:¬(g+1=p):=by omega
      have hdi:(d:Int)<4:=by omega
      clear D G NA;go_wp2
      go_region_held3 (fun W=>W.cell? ⟨p,d,none⟩=some (.slice sA sn sc)∧W.cell? ⟨g,d,none⟩=some (.slice tA tn tc)) (go_keep)
        (first
          | (refine NY.mono ?_;rintro e w3 ⟨l,z,O,c3,rfl,Ny,k⟩
             have N_:=ah (HU.later k);have NF:=ah k;have i0:w3.cell? ⟨p,d,none⟩=some (.slice sA sn sc):=(k.cell (p:=⟨p,d,none⟩) (by show p<wr.heap.size;omega)).trans k0;have i1:w3.cell? ⟨g,d,none⟩=some (.slice tA tn tc):=(k.cell (p:=⟨g,d,none⟩) (by show g<wr.heap.size;omega)).trans k1;have i2:w3.cell? ⟨g+1,d,none⟩=_:=N_.cell d v;have i3:w3.frozen? ⟨g+1,d,none⟩=false:=N_.free.2 d
             clear k k0 k1 k2))
      all_goals
        have NW:ai (dN (w3.setCell ⟨g+1,d,none⟩ (.slice z O c3)) (g+1) (fun j=>.slice (upd u d ⟨z,O,c3⟩ j).A (upd u d ⟨z,O,c3⟩ j).n (upd u d ⟨z,O,c3⟩ j).c)):=by
          refine (N_.set v _).congr fun j V=>?_
          by_cases he:j=d
          · subst he;rw[upd_same,upd_same]
          · rw[bZ _ _ he,bZ _ _ he]
        have Ob:ai (∀ j:Nat,j<d+1→(upd r d l j).length=(upd u d ⟨z,O,c3⟩ j).n∧Rb (w3.setCell ⟨g+1,d,none⟩ (.slice z O c3)) (g+2) 2 (upd u d ⟨z,O,c3⟩ j).A (upd u d ⟨z,O,c3⟩ j).n (upd u d ⟨z,O,c3⟩ j).c (aS (upd r d l j))∧Put f (part a j) (part b j) (upd r d l j)):=fun j V=>by
          by_cases he:j=d
          · subst he
            rw[upd_same,upd_same];exact⟨Ny.1,Bq Ny.2.1 (a:=⟨g+1,j,none⟩) (by show g+1<g+2;omega) _,Ny.2.2⟩
          · rw[bZ _ _ he,bZ _ _ he]
            obtain⟨x1,x2,x3⟩:=Q.o j (by omega);exact⟨x1,Bq (x2.later NF) (a:=⟨g+1,d,none⟩) (by show g+1<g+2;omega) _,x3⟩
        have NV:ai (Below (g+1) Y (w3.setCell ⟨g+1,d,none⟩ (.slice z O c3))):=(C.trans (NF.mono (by omega))).setCell (p:=⟨g+1,d,none⟩) (bG) _;clear i0 i1 i2 i3;go_wp2;go_roundw
        case rel=>exact⟨d+1,upd u d ⟨z,O,c3⟩,upd r d l,by omega,by go_num,NW,Ob,NV⟩
        case measure=>simp[intOf];omega
    · obtain rfl:d=4:=by omega
      have HC:=ah (vE u r wr (fun j V=>⟨(Q.o j V).1,(Q.o j V).2.1.rd⟩) (fun j V=>by have:=(Q.o j V).2.2.len;have:=iH a j;have:=iH b j;have:=Nz.o;have:=N7.o;omega));have k0:=HU.cell 0 (by omega);have k1:=HU.cell 1 (by omega);have k2:=HU.cell 2 (by omega);have k3:=HU.cell 3 (by omega);have Oa:ai (iW f a b (pre r 4)):=Lp fun j V=>(Q.o j V).2.2
      have NZ:ai ((pre r 4).length≤n+m):=by
        have h0:=(Q.o 0 (by omega)).2.2.len;have h1:=(Q.o 1 (by omega)).2.2.len;have h2:=(Q.o 2 (by omega)).2.2.len;have h3:=(Q.o 3 (by omega)).2.2.len;have ea:=zV a;have eb:=zV b;have h4:=Nz.o;have h5:=N7.o;unfold ai;rw[qd];unfold glue;rw[bP,bP,bP,gV,gV,gV,gV];show (r 0).length+((r 1).length+((r 2).length+(r 3).length))≤n+m;rw[show ((0:Nat):Int)=0 from rfl]at h0;rw[show ((1:Nat):Int)=1 from rfl]at h1;rw[show ((2:Nat):Int)=2 from rfl]at h2;rw[show ((3:Nat):Int)=3 from rfl]at h3;omega
      have Z:ai (av w wr):=NU.trans (C.mono (by omega));clear Q C NJ NK NN NP;go_wp2_with (go_at_call 168;refine HC.mono ?_;rintro e w3 ⟨z,c3,rfl,Oe,k⟩);go_ret;exact⟨pre r 4,(pre r 4).length,z,c3,rfl,rfl,Oa,NZ,Oe.mono Z.size,Z.trans (k.mono Z.size)⟩
theorem rQ (a b:List S3) (n m:Nat) (A B:Option Addr) (c d:Nat) (w:World) (f:a.length=n) (g:b.length=m) (D:n≤50000) (C:m≤50000) (h:Rd w w.heap.size 3 A n c (aP a)) (i:Rd w w.heap.size 3 B m d (aP b)) (s:aH a) (t:aH b) :
    Calls Tryz.prog 125 #[.slice A n c,.slice B m d] w (Em l6 a b n m w):=by
  have v:=ah (zJ l6 156 (fun a b n m A B c d w j k l p r x y z=>IA a b n m A B c d w j k l p r x y z) (qC Tryz.func156 (by kernel_rfl) rfl) a b n m A B c d w f g D C h i s t);clear f g h i s t;go_enter Tryz.func125,Tryz.ntmps125;go_wp2_with (go_at_call 155;refine v.mono ?_;rintro e w1 ⟨u,q,A1,c1,rfl,j,k,l,p,r⟩);go_ret;exact⟨u,q,_,_,rfl,j,k,l,p,r⟩
theorem ER (a b:List S3) (n m:Nat) (A B:Option Addr) (c d:Nat) (w:World) (f:a.length=n) (g:b.length=m) (D:n≤50000) (C:m≤50000) (h:Rd w w.heap.size 3 A n c (aP a)) (i:Rd w w.heap.size 3 B m d (aP b)) (s:aH a) (t:aH b) :
    Calls Tryz.prog 152 #[.slice A n c,.slice B m d] w (Em EQ a b n m w):=by
  have v:=ah (zJ EQ 177 (fun a b n m A B c d w j k l p r x y z=>H8 a b n m A B c d w j k l p r x y z) (qC Tryz.func177 (by kernel_rfl) rfl) a b n m A B c d w f g D C h i s t);clear f g h i s t;go_enter Tryz.func152,Tryz.ntmps152;go_wp2_with (go_at_call 155;refine v.mono ?_;rintro e w1 ⟨u,q,A1,c1,rfl,j,k,l,p,r⟩);go_ret;exact⟨u,q,_,_,rfl,j,k,l,p,r⟩
set_option maxHeartbeats 400000 in
theorem JF (a b:List S3) (n m:Nat) (A B:Option Addr) (c d:Nat) (w:World) (i:a.length=n) (j:b.length=m) (M:n≤50000) (L:m≤50000) (k:Rd w w.heap.size 3 A n c (aP a)) (p:Rd w w.heap.size 3 B m d (aP b)) (y:aH a) (C:aH b) :
    Calls Tryz.prog 123 #[.slice A n c,.slice B m d] w fun e w'=>∃ l,iW EQ a b l∧e = .returned (.bool (decide (l=[])))∧av w w':=by
  have v:=ah (jW a n A c w i (by omega) k true (fK y));have x:=fun W (h:av w W)=>ah (jW b m B d W j (by omega) ((p.below h).more h.size) true (fK C));have G:=fun W (h:av w W)=>ah (ER a b n m A B c d W i j M L ((k.below h).more h.size) ((p.below h).more h.size) y C);clear k p i j y C;go_enter Tryz.func123,Tryz.ntmps123;go_wp2_with fail;refine v.mono ?_;rintro e N ⟨rfl,g⟩;go_wp2_with fail;refine (x N g).o.mono ?_;rintro e O ⟨rfl,s⟩;have f:=g.trans (s.mono g.size);go_wp2_with fail;refine (G O f).o.mono ?_;rintro e w3 ⟨l,q,A3,c3,rfl,u,H,hq,HR,t⟩;have F:=ah (f.trans (t.mono f.size));obtain⟨z,D⟩:∃ z,z=decide (l=[]):=⟨_,rfl⟩
  have hz2:((q:Int)==0)=z:=by
    rw[D,← u.o]
    cases l with
    | nil=>rfl
    | cons r l=>simp;omega
  have J:=ah D;clear g s t f D;go_wp2;go_ret;exact⟨l,H,aj J,F⟩
theorem JG (a b:List S3) (n m:Nat) (A B:Option Addr) (c d:Nat) (w:World) (j:a.length=n) (k:b.length=m) (hn:n≤50000) (hm:m≤50000) (l:Rd w w.heap.size 3 A n c (aP a)) (p:Rd w w.heap.size 3 B m d (aP b)) (g:(bA a&&bA b)=false) :
    Calls Tryz.prog 123 #[.slice A n c,.slice B m d] w fun e w'=>e = .returned (.bool false)∧av w w':=by
  obtain⟨x,s⟩:∃ x,x=bA a:=⟨_,rfl⟩;obtain⟨y,t⟩:∃ y,y=bA b:=⟨_,rfl⟩;rw[← s,← t]at g;have i:=ah (jW a n A c w j (by omega) l x s.symm);have q:=fun W (h:av w W)=>ah (jW b m B d W k (by omega) ((p.below h).more h.size) y t.symm);clear l p j k s t
  cases x with
  | false=>
    go_enter Tryz.func123,Tryz.ntmps123;go_wp2_with fail;refine i.mono ?_;rintro e u ⟨rfl,f⟩;go_wp2;go_ret;exact⟨rfl,f⟩
  | true=>
    rw[Bool.true_and]at g;subst g;go_enter Tryz.func123,Tryz.ntmps123;go_wp2_with fail;refine i.mono ?_;rintro e u ⟨rfl,f⟩;go_wp2_with fail;refine (q u f).o.mono ?_;rintro e w2 ⟨rfl,r⟩;go_wp2;go_ret;exact⟨rfl,f.trans (r.mono f.size)⟩
end Cx
namespace Cx
open Sp Rw
def jG (d:Int×Int):List Value:=[.int .i64 d.1,.int .i64 d.2]
theorem Je (d:Int×Int):(jG d).length=2:=rfl
theorem JW {w:World} {B n c:Nat} {A:Option Addr} {l:List (Int×Int)} (h:Rd w B 2 A n c (l.flatMap jG)) {m:Nat} (f:m<n) :
  ∃ b o,A=some ⟨b,o,none⟩∧b<B∧∀ (i:Nat) (hi:i<l.length),w.cell? ⟨b,o+i*2,none⟩=some (.int .i64 l[i].1)∧w.cell? ⟨b,o+i*2+1,none⟩=some (.int .i64 l[i].2):=by
 obtain⟨b,o,e,d,a⟩:=fJ Je h f;exact⟨b,o,e,d,fun i hi=>⟨a i hi 0 _ rfl,a i hi 1 _ rfl⟩⟩
def nums (l:List (Int×Int)) (d:Int):List Int:=(l.filter fun x=>decide (x.1=d)).map fun x=>x.2
theorem nums_append (a b:List (Int×Int)) (d:Int):nums (a++b) d=nums a d++nums b d:=by simp[nums]
theorem JL (x:Int×Int) (d:Int):nums [x] d=if x.1=d then [x.2]else []:=by
 unfold nums
 by_cases h:x.1=d <;> simp[h]
theorem uM {l:List (Int×Int)} {k:Nat} (a:k<l.length) {x:Int×Int} (b:x=l[k]) (d:Int):nums (l.take (k+1)) d=if x.1=d then nums (l.take k) d++[x.2]else nums (l.take k) d:=by
 rw[dZ a,nums_append,← b,JL]
 split <;> simp
theorem sZ {l:List (Int×Int)} {d v:Int} : v∈nums l d↔(d,v)∈l:=by
 unfold nums;simp only[dH,qR,yZ];constructor
 ·rintro⟨s,⟨b,a⟩,rfl⟩
  subst a;exact b
 ·intro h
  exact⟨(d,v),⟨h,rfl⟩,rfl⟩
theorem sW (l:List (Int×Int)) (d:Int):(nums l d).length≤l.length:=by
 unfold nums;rw[eP];exact List.length_filter_le _ _
structure pG (l:List (Int×Int)) (u:List S3):Prop where
 right:aH u
 has:∀ d n,ny d→(aD u d n=true↔(d,n)∈l)
theorem pG.eq {l:List (Int×Int)} {u a:List S3} (h:pG l u) (b:pG l a):u=a:=KU h.right b.right fun d n hd=>by
 have h1:=h.has d n hd;have h2:=b.has d n hd
 cases e1:aD u d n <;> cases e2:aD a d n <;> simp_all
theorem Mx {l:List (Int×Int)} {r:Nat→List (Int×Int)} (h:∀ d:Nat,d<4→pI (nums l d) (r d)):pG l (pre r 4):=by
 have e:∀ d,ny d→((d.toNat:Nat):Int)=d∧d.toNat<4:=fun d hd=>⟨by have:=hd.1;omega,by have:=hd.1;have:=hd.2;omega⟩;rw[qd];refine⟨xS fun d hd=>?_,fun d n hd=>?_⟩
 ·exact (h d.toNat (e d hd).2).1
 ·unfold aD
  rw[nU _ hd];have:=(h d.toNat (e d hd).2).2 n;rw[(e d hd).1]at this;exact this.trans sZ
def goodD (l:List (Int×Int)):Prop:=∀ x∈l,Dt.ak x.1 x.2=true
theorem lK {x:Int×Int} (h:Dt.ak x.1 x.2=true):(0≤x.1∧x.1<4)∧1≤x.2∧x.2≤1099511627776:=by
 have:=jH (p:=0≤x.1∧x.1<4∧1≤x.2∧x.2≤1099511627776) h;omega
theorem EC (s:Nat→SV) (k:Nat) (hk:k<4) (W:World):(Instr.index 189 (.agg #[.slice (s 0).A (s 0).n (s 0).c,.slice (s 1).A (s 1).n (s 1).c,.slice (s 2).A (s 2).n (s 2).c,.slice (s 3).A (s 3).n (s 3).c]) (.int .i64 k)).run Tryz.prog W = .ok (.slice (s k).A (s k).n (s k).c) W:=by
 have a:(Tryz.prog.info? 175).map (fun i=>(i.zero,i.size,i.bytes))=some (some (.slice none 0 0),1,24):=by kernel_rfl
 obtain⟨i0,b,_,d,_⟩:=dO a
 have f:∀ W,(sizeOf 175).run Tryz.prog W = .ok 1 W:=fun W=>by simp[sizeOf,typeInfo,b,d]
 have e:∀ W,(isAgg 175).run Tryz.prog W = .ok false W:=fun W=>by simp[isAgg,run_underlying Tryz.underlying175]
 rcases (by omega:k=0∨k=1∨k=2∨k=3)with rfl | rfl | rfl | rfl <;> simp[Instr.index,run_underlying Tryz.underlying189,asIntOf,go_sem,f,e]
theorem Ky {l:List (Int×Int)} {k d:Nat} (a:k<l.length) {y:Int} (b:((d:Int),y)=l[k]) :
  upd (fun i=>dU (nums (l.take k) i)) d (dU (nums (l.take k) d)++[.int .i64 y])=fun i:Nat=>dU (nums (l.take (k+1)) i):=by
 funext i
 rw[uM a b]
 by_cases h:i=d
 ·subst h
  rw[upd_same,if_pos rfl,kZ];rfl
 ·rw[bZ _ _ h,if_neg (by intro e;exact h (Int.ofNat.inj e.symm))]
def MF (l:List (Int×Int)) (n:Nat) (w:World) (e:Ending) (w':World):Prop:=
 (goodD l∧∃ u q A c,e = .returned (.tuple #[.slice A q c,.int .i64 0])∧ai (u.length=q)∧ai (pG l u)∧q≤4*n∧ai (Rd w' w'.heap.size 3 A q c (aP u))∧av w w') ∨
 (¬goodD l∧e = .returned (.tuple #[.slice none 0 0,.int .i64 1])∧av w w')
def MG (l:List (Int×Int)) (n:Nat) (w:World) (e:Ending) (w':World):Prop:=
 (goodD l∧∃ u q A c b,e = .returned (.tuple #[.slice A q c,.int .i64 0])∧ai (u.length=q)∧ai (pG l u)∧q≤4*n∧ai (w.heap.size≤b∧Own w' b 117 3 A q c (aP u))∧av w w') ∨
 (¬goodD l∧e = .returned (.tuple #[.slice none 0 0,.int .i64 1])∧av w w')
set_option maxRecDepth 100000 in
set_option maxHeartbeats 4000000 in
theorem Gw (l:List (Int×Int)) (n:Nat) (A:Option Addr) (c:Nat) (w:World) (hl:l.length=n) (hn:n≤1000) (hr:Rd w w.heap.size 2 A n c (l.flatMap jG)) :
  Calls Tryz.prog 137 #[.slice A n c] w (MG l n w):=by
 obtain⟨g,hg⟩:∃ g,g=w.heap.size:=⟨_,rfl⟩;have HR:=ah hr;have HL:=ah hl;have HG:=ah hg;clear hr hl hg;go_enter Tryz.func137,Tryz.ntmps137;go_wp2;rw[← HG.o]
 go_loopw [14] (fun i wr=>∃ (k:Nat) (s:Nat→SV),k≤n∧i = .int .i64 k∧ai (goodD (l.take k))∧ai (kT wr (g+1) 2 1 g s (fun d=>dU (nums (l.take k) d)))∧ai (∀ d:Nat,d<4→(nums (l.take k) d).length=(s d).n)∧ai (av w wr)) (fun i _=>n-(intOf i).toNat)
 case atStart=>
  rw[HG.o];refine⟨0,fun _=>L6,by omega,rfl,fun x hx=>by simp at hx,kT.nil (by omega) (by simp) ⟨by simp,fun j=>by go_simp⟩ (fun d hd=>?_),fun d _=>rfl,Dt.ay _ _ _⟩
  rcases (by omega:d=0∨d=1∨d=2∨d=3)with rfl | rfl | rfl | rfl <;> go_simp
 case round=>
  obtain⟨k,s,hk,rfl,V,D,HN,f⟩:=hrel
  by_cases NV:k<n
  ·have Z:k<l.length:=by rw[HL.o];exact NV
   obtain⟨b1,o,rfl,NU,hc⟩:=JW HR NV;obtain⟨q0,q1⟩:=hc k Z;obtain⟨p,U⟩:∃ p,p=l[k]:=⟨_,rfl⟩;have HP:ai (p=l[k]):=ah U
   have Ny:p∈l:=by rw[U];exact bT Z
   have NM:l.take (k+1)=l.take k++[p]:=by rw[U];exact dZ Z
   rw[← U]at q0 q1;obtain⟨dc,y⟩:=p;have q0:=(f.cell (p:=⟨b1,o+k*2,none⟩) NU).trans q0;have q1:=(f.cell (p:=⟨b1,o+k*2+1,none⟩) NU).trans q1;dsimp only at q0 q1;obtain⟨h,W,hh,hW,F,-,-⟩:=A_ wr (.int .i64 dc) (.int .i64 y) 37
   have HK:ai (Kept [(⟨h,0,none⟩,.int .i64 dc),(⟨h,1,none⟩,.int .i64 y)] wr W):=by
    rw[hW,hh];exact (((Kept.nil wr).alloc _).af (by go_simp)).af (by go_simp)
   have HW:=ah hW;have HH:=ah hh
   cases C:Dt.ak dc y with
   | false=>
    have NI:ai (Calls Tryz.prog 163 #[.agg #[.int .i64 dc,.int .i64 y]] W fun e R=>e = .returned (.bool false)∧av W R):=by have:=Dt.fD dc y W;rwa [C]at this
    have NP:ai (¬goodD l):=fun hg=>by have:=hg _ Ny;rw[C]at this;cases this
    have NN:=ah (f.trans (F.mono f.size));clear hc U Ny NM hW hh F C;go_wp2_with fail;rw[← HW.o];clear q0 q1;refine NI.mono ?_;rintro e w2 ⟨rfl,t⟩;go_wp2;go_ret2;exact .inr ⟨NP,rfl,NN.trans (t.mono NN.size)⟩
   | true=>
    have NI:ai (Calls Tryz.prog 163 #[.agg #[.int .i64 dc,.int .i64 y]] W fun e R=>e = .returned (.bool true)∧av W R):=by have:=Dt.fD dc y W;rwa [C]at this
    have NC:ai (goodD (l.take (k+1))):=fun x hx=>by
     rw[NM]at hx
     rcases fO.1 hx with hx | hx
     ·exact V.o x hx
     ·rw[eX.1 hx];exact C
    obtain⟨⟨Og,Q⟩,_⟩:=lK (x:=(dc,y)) C;dsimp only at Og Q;obtain⟨d,rfl⟩:∃ d:Nat,dc=(d:Int):=⟨dc.toNat,by omega⟩
    have z:d<4:=by omega
    have Nz:=ah F;have NG:=ah hh;clear hc U Ny NM hW hh F C V;go_wp2_with fail;rw[← HW.o,← HH.o];clear q0 q1;refine NI.mono ?_;rintro e N ⟨rfl,t⟩;have NH:=ah (HK.later t);have L:=(((D.later Nz).later t)).later ((Below.refl N.heap.size N).drew)
    have hnk:(s d).n≤k:=by rw[← HN.o d z];exact aN (sW _ _) (by rw[l7];exact Nat.min_le_left _ _)
    obtain⟨A',c',R,r1,r2,r3,r4,r5⟩:=L.push Tryz.underlying175 Gg rfl (by omega) (by omega) z N.heap.size rfl [.int .i64 y] rfl (by intro u hu;simp at hu;rcases hu with rfl;rfl) (by omega)
    have NK:(s d).val.ownBlock≠some h:=fun e=>by have:=(D.lt z e).2;have:=NG.o;omega
    have G:h<N.drew.heap.size:=by
     have h1:h<W.heap.size:=aL W _ HK.c0;exact cO h1 t.size
    have c0:=NH.c0;have c1:=NH.c1;have i0:R.cell? ⟨h,0,none⟩=some (.int .i64 d):=(r2 h NK G 0).trans c0;have i1:R.cell? ⟨h,1,none⟩=some (.int .i64 y):=(r2 h NK G 1).trans c1;have hl1:g<N.heap.size:=L.free.1;have hl2:h<N.heap.size:=G
    have hgh:g<h:=by have:=D.free.1;have:=NG.o;omega
    have hgh2:h≠g:=by omega
    have hgh3:¬(g=h):=by omega
    have ig:R.cell? ⟨g,d,none⟩=some (.slice (s d).A (s d).n (s d).c):=(r2 g (fun e=>by have:=(D.lt z e).1;omega) (L.free.1) d).trans (L.cell d z);have cg:N.cell? ⟨g,d,none⟩=some (.slice (s d).A (s d).n (s d).c):=L.cell d z;have mg:=r3.2 d
    have N7:ai (∀ i:Nat,i<4→(nums (l.take (k+1)) i).length=(upd s d ⟨A',(s d).n+1,c'⟩ i).n):=fun i hi=>by
     rw[uM Z HP.o]
     by_cases X:i=d
     ·subst X
      rw[upd_same,if_pos rfl,bP,HN.o i hi];rfl
     ·rw[bZ _ _ X,if_neg (by intro e;exact X (Int.ofNat.inj e.symm)),HN.o i hi]
    have N8:ai (kT (R.setCell ⟨g,d,none⟩ (.slice A' ((s d).n+1) c')) (g+1) 2 1 g (upd s d ⟨A',(s d).n+1,c'⟩) (fun i=>dU (nums (l.take (k+1)) i))):=by
     have:=r5;rw[Ky Z HP.o]at this;exact this
    have NT:Below (g+1) wr R:=((Nz.trans (t.mono Nz.size)).mono D.high).trans (((bN).drew).trans r4);have J:ai (av w (R.setCell ⟨g,d,none⟩ (.slice A' ((s d).n+1) c'))):=(f.trans (NT.mono (by rw[HG.o];omega))).setCell (p:=⟨g,d,none⟩) (by rw[HG.o];exact bG) _;have v:=ah r1;obtain⟨sA,sn,sc,hs⟩:∃ sA sn sc,s d=⟨sA,sn,sc⟩:=⟨_,_,_,rfl⟩;rw[hs]at v cg ig N8 N7 J;dsimp only at v cg ig N8 N7 J;clear r1 r2 r3 r4 r5 NT NK G L hs D HN f t HK NH Nz NG;go_wp2;refine Rk (S:=fun W=>W.cell? ⟨h,0,none⟩=some (.int .i64 d)∧W.cell? ⟨h,1,none⟩=some (.int .i64 y)) (fun hHeld=>?_);refine T4 0 21 1 22 2 23 3 24 ?_;refine T3 4 25 6 27 7 28 ?_
    refine wpAnyH_ready (rs:=[5,8]) (by kernel_rfl) (by simp) ?_;refine AllReadyH.cons (o:=⟨some 26,_,_,_,_,_⟩) rfl (fun K m=>?_) (AllReadyH.cons (o:=⟨some 29,_,_,_,_,_⟩) rfl (fun K m=>?_) AllReadyH.nil)
    ·go_simp
     refine Th m ?_ (fun b=>?_)
     ·exact hHeld
     clear m K hHeld;have hHeld:=b;clear b;refine Tc 8 (fun K m=>?_);go_simp;refine Th m ?_ (fun b=>?_)
     ·(try dsimp only);go_keep
     clear m K hHeld;have hHeld:=b;clear b;refine Tc 9 (fun K m=>?_);refine bg _ _ _ rfl rfl rfl v ?_;clear hHeld;refine Th m ?_ (fun hHeld=>?_)
     ·exact⟨i0,i1⟩
     clear m K;refine Tk 10 31 ?_;refine Tc 11 (fun K m=>?_);go_simp;refine Th m ?_ (fun b=>?_)
     ·(try dsimp only);go_keep
     clear m K hHeld;have hHeld:=b;clear b;refine Td ?_;clear v c0 c1 i0 i1 cg ig mg hHeld;go_wp2;go_roundw
     case rel=>exact⟨k+1,_,by omega,by go_num,NC,N8,N7,J⟩
     case measure=>simp[intOf];omega
    ·go_simp
     refine Th m ?_ (fun b=>?_)
     ·(try dsimp only);go_keep
     clear m K hHeld;have hHeld:=b;clear b;refine Tc 5 (fun K m=>?_);go_simp;refine Th m ?_ (fun b=>?_)
     ·exact hHeld
     clear m K hHeld;have hHeld:=b;clear b;refine Tc 9 (fun K m=>?_);refine bg _ _ _ rfl rfl rfl v ?_;clear hHeld;refine Th m ?_ (fun hHeld=>?_)
     ·exact⟨i0,i1⟩
     clear m K;refine Tk 10 31 ?_;refine Tc 11 (fun K m=>?_);go_simp;refine Th m ?_ (fun b=>?_)
     ·(try dsimp only);go_keep
     clear m K hHeld;have hHeld:=b;clear b;refine Td ?_;clear v c0 c1 i0 i1 cg ig mg hHeld;go_wp2;go_roundw
     case rel=>exact⟨k+1,_,by omega,by go_num,NC,N8,N7,J⟩
     case measure=>simp[intOf];omega
  ·obtain rfl:k=n:=by omega
   have NE:l.take k=l:=eO (by rw[HL.o];omega);rw[NE]at D HN V;have p0:=D.cell 0 (by omega);have p1:=D.cell 1 (by omega);have p2:=D.cell 2 (by omega);have p3:=D.cell 3 (by omega);obtain⟨N,N_⟩:∃ W,W=wr.alloc (.cells #[.slice none 0 0,.slice none 0 0,.slice none 0 0,.slice none 0 0] 183):=⟨_,rfl⟩;obtain⟨p,U⟩:∃ p,p=wr.heap.size:=⟨_,rfl⟩
   have t:av wr N:=by rw[N_];exact Dt.ay _ _ _
   have NQ:ai (dN N p (fun _=>.slice none 0 0)):=by rw[N_,U];exact dN.new wr _ _ _ _ _ _ rfl
   have NS:ai (∀ d:Nat,d<4→(nums l d).length=(s d).n∧Rd N p 1 (s d).A (s d).n (s d).c (dU (nums l d))):=fun d hd=>⟨HN d hd,by rw[U];exact (D.rd hd).below t⟩;have NW:=ah (f.trans (t.mono f.size));have Oh:g<wr.heap.size:=D.free.1;have Oe:=ah N_;have Oc:=ah U
   have hpw:w.heap.size≤p:=by rw[U];exact f.size
   clear NE HR D HN f t N_ U;go_wp2;rw[← Oc.o,← Oe.o];clear p0 p1 p2 p3 Oh
   go_loopw [34] (fun i wr=>∃ (d:Nat) (u:Nat→SV) (r:Nat→List (Int×Int)),d≤4∧i = .int .i64 d∧ai (dN wr p (fun j=>.slice (u j).A (u j).n (u j).c))∧ai (∀ j:Nat,j<d→(r j).length=(u j).n∧Rb wr (p+1) 2 (u j).A (u j).n (u j).c (aS (r j))∧pI (nums l j) (r j)∧(r j).length≤k)∧ai (Below p N wr)) (fun i _=>4-(intOf i).toNat)
   case atStart=>exact⟨0,fun _=>L6,fun _=>[],by omega,rfl,NQ,fun j Y=>by omega,bN⟩
   case round=>
    clear NQ;obtain⟨d,u,r,hd,rfl,HU,B,f⟩:=hrel
    by_cases Q:d<4
    ·have hix:=EC s d Q
     have hdi:(d:Int)<4:=by omega
     have hps:p<wr.heap.size:=HU.free.1;have NA:=NS.o d Q
     have NR:ai ((nums l d).length≤k):=ah (by have:=sW l d;have:=HL.o;omega)
     have NZ:ai (Calls Tryz.prog 167 #[.slice (s d).A (s d).n (s d).c] wr fun e R=>∃ x A q c,e = .returned (.tuple #[.slice A q c,.int .i64 0])∧ai (x.length=q∧Rb R (p+1) 2 A q c (aS x)∧pI (nums l d) x∧x.length≤k)∧av wr R):=by
      refine (Mw (nums l d) (s d).n (s d).A (s d).c wr NA.1 (by have:=NR.o;have:=NA.1;omega) ((NA.2.below f).more (by omega))).mono ?_;rintro e w2 (⟨_,x,A,c,rfl,hs,hq,ho,hb⟩ | ⟨⟨x,hx,hx2⟩,_⟩)
      ·exact⟨x,A,x.length,c,rfl,⟨rfl,ho.rb.mono (by omega),hs,by have:=NR.o;omega⟩,hb⟩
      ·exfalso
       have:=(lK (V.o _ (sZ.1 hx))).2;dsimp only at this;omega
     clear NA;go_wp2_with (go_at_call 167;refine NZ.mono ?_;rintro e w3 ⟨x,H,q3,c3,rfl,NJ,O⟩;have N9:=HU.later O;have k0:=N9.cell d Q;have m0:=N9.free.2 d)
     have NY:ai (dN (w3.setCell ⟨p,d,none⟩ (.slice H q3 c3)) p (fun j=>.slice (upd u d ⟨H,q3,c3⟩ j).A (upd u d ⟨H,q3,c3⟩ j).n (upd u d ⟨H,q3,c3⟩ j).c)):=by
      refine (N9.set Q _).congr fun j Y=>?_
      by_cases X:j=d
      ·subst X;rw[upd_same,upd_same]
      ·rw[bZ _ _ X,bZ _ _ X]
     have Od:ai (∀ j:Nat,j<d+1→(upd r d x j).length=(upd u d ⟨H,q3,c3⟩ j).n∧Rb (w3.setCell ⟨p,d,none⟩ (.slice H q3 c3)) (p+1) 2 (upd u d ⟨H,q3,c3⟩ j).A (upd u d ⟨H,q3,c3⟩ j).n (upd u d ⟨H,q3,c3⟩ j).c (aS (upd r d x j))∧pI (nums l j) (upd r d x j)∧(upd r d x j).length≤k):=fun j Y=>by
      by_cases X:j=d
      ·subst X
       rw[upd_same,upd_same];exact⟨NJ.1,Bq NJ.2.1 (a:=⟨p,j,none⟩) (by show p<p+1;omega) _,NJ.2.2⟩
      ·rw[bZ _ _ X,bZ _ _ X]
       obtain⟨x1,x2,x3⟩:=B.o j (by omega);exact⟨x1,Bq (x2.later O) (a:=⟨p,d,none⟩) (by show p<p+1;omega) _,x3⟩
     have J:ai (Below p N (w3.setCell ⟨p,d,none⟩ (.slice H q3 c3))):=(f.trans (O.mono (by omega))).setCell (p:=⟨p,d,none⟩) (bG) _;clear k0 m0 N9 O;go_roundw
     case rel=>exact⟨d+1,upd u d ⟨H,q3,c3⟩,upd r d x,by omega,by go_num,NY,Od,J⟩
     case measure=>simp[intOf];omega
    ·obtain rfl:d=4:=by omega
     have HC:=ah (vE u r wr (fun j Y=>⟨(B.o j Y).1,(B.o j Y).2.1.rd⟩) (fun j Y=>by have:=(B.o j Y).2.2.2;omega));have k0:=HU.cell 0 (by omega);have k1:=HU.cell 1 (by omega);have k2:=HU.cell 2 (by omega);have k3:=HU.cell 3 (by omega);have Ob:ai (pG l (pre r 4)):=Mx fun j Y=>(B.o j Y).2.2.1;have Oa:ai ((pre r 4).length≤4*k):=wK (M:=k) (fun j Y=>(B.o j Y).2.2.2) 4 (by omega);have NF:ai (av w wr):=NW.trans (f.mono (by omega));clear B f NS;go_wp2_with (go_at_call 168;refine HC.mono ?_;rintro e w3 ⟨H,c3,rfl,Oi,O⟩);go_ret2;exact .inl ⟨V,pre r 4,(pre r 4).length,H,c3,wr.heap.size,rfl,rfl,Ob,Oa,⟨NF.size,Oi⟩,NF.trans (O.mono NF.size)⟩
theorem Gv (l:List (Int×Int)) (n:Nat) (A:Option Addr) (c:Nat) (w:World) (p:l.length=n) (r:n≤1000) (s:Rd w w.heap.size 2 A n c (l.flatMap jG)) :
  Calls Tryz.prog 137 #[.slice A n c] w (MF l n w):=(Gw l n A c w p r s).mono fun e w' h=>by
 rcases h with ⟨d,u,q,a,c2,b,f,g,i,j,k,m⟩ | h
 ·exact .inl ⟨d,u,q,a,c2,f,g,i,j,ah k.2.rd,m⟩
 ·exact .inr h
end Cx
end
set_option maxRecDepth 100000
set_option maxHeartbeats 4000000
section
open ChangeShapes WideShapes ChangeAt RowKit
namespace Tr
open Sp Rw
structure Gr (w w':World) (v v':Value):Prop where
 gb:w.grownBy w' v.ownBlock
 own:v'.ownBlock=v.ownBlock∨∃ k,v'.ownBlock=some k∧w.heap.size≤k
namespace Gr
variable {w w1 w2:World} {v v1 v2:Value}
theorem refl (w:World) (v:Value):Gr w w v v:=⟨⟨rfl,rfl,rfl,bG,fun _ _ _=>rfl⟩,.inl rfl⟩
theorem size (h:Gr w w1 v v1):w.heap.size≤w1.heap.size:=h.gb.size
theorem block (h:Gr w w1 v v1) {b:Nat} (a:b<w.heap.size) (c:v.ownBlock≠some b):w1.heap[b]?=w.heap[b]?:=h.gb.block b a fun e=>c e.symm
theorem apart (h:Gr w w1 v v1) {b:Nat} (hb:b<w.heap.size) (c:v.ownBlock≠some b):v1.ownBlock≠some b:=fun e=>by
 rcases h.own with a | ⟨k,a,h2⟩
 ·exact c (a.symm.trans e)
 ·rw[a]at e
  injection e with e;omega
theorem trans (h:Gr w w1 v v1) (a:Gr w1 w2 v1 v2):Gr w w2 v v2:=by
 refine⟨⟨a.gb.os.trans h.gb.os,a.gb.tape.trans h.gb.tape,a.gb.output.trans h.gb.output,aN h.size a.size,fun b g l=>?_⟩,?_⟩
 ·have c:v.ownBlock≠some b:=fun e=>l e.symm
  exact (a.block (cO g h.size) (h.apart g c)).trans (h.block g c)
 ·rcases a.own with d | ⟨k,d,i⟩
  ·rcases h.own with f | ⟨k,f,j⟩
   ·exact .inl (d.trans f)
   ·exact .inr ⟨k,d.trans f,j⟩
  ·exact .inr ⟨k,d,aN h.size i⟩
theorem of_below (h:av w w1):Gr w w1 v v:=⟨⟨h.os,h.tape,h.output,h.size,fun b a _=>h.block b a⟩,.inl rfl⟩
theorem cell (h:Gr w w1 v v1) {p:Addr} (a:p.block<w.heap.size) (b:v.ownBlock≠some p.block):w1.cell? p=w.cell? p:=bU (h.block a b)
theorem below (h:Gr w w1 v v1) {a:Nat} (b:a≤w.heap.size) (d:∀ k,v.ownBlock=some k→a≤k):Below a w w1:=(Below.refl a w).grown h.gb b fun k c=>d k c
end Gr
theorem MV:(Tryz.prog.info? 37).map (fun i=>(i.zero,i.size,i.bytes))=some (some (.agg #[.int .i64 0,.int .i64 0]),2,16):=by kernel_rfl
theorem wS (d:Int×Int):∀ u∈Cx.jG d,u.oneCell'=true:=by
 intro u hu;simp[Cx.jG]at hu
 rcases hu with rfl | rfl <;> rfl
theorem Dj (W:World) (d q:Nat) (r:W.heap.size=q) {A:Option Addr} {n c:Nat} {l:List (Int×Int)} (h:Own W d 37 2 A n c (l.flatMap Cx.jG)) (hlo:d≤W.heap.size) (x:Int×Int) (hn:n≤800000) :
  ∃ A' c' w',(Builtin.append_ #[153,153] 153 #[.slice A n c,.slice (some ⟨q,0,none⟩) 1 1]).run Tryz.prog (W.alloc (.cells #[.int .i64 x.1,.int .i64 x.2] 37)) = .ok (.slice A' (n+1) c') w'∧Own w' d 37 2 A' (n+1) c' ((l++[x]).flatMap Cx.jG)∧Gr W w' (.slice A n c) (.slice A' (n+1) c'):=by
 subst r;have a:av W (W.alloc (.cells #[.int .i64 x.1,.int .i64 x.2] 37)):=Dt.ay _ _ _;obtain⟨t,f,g,i,k⟩:=dO MV
 have s:Rd (W.alloc (.cells #[.int .i64 x.1,.int .i64 x.2] 37)) (W.heap.size+1) 2 (some ⟨W.heap.size,0,none⟩) 1 1 ([x].flatMap Cx.jG):=
  ⟨rfl,bG,fun u hu=>wS x u (by simpa using hu),fun _=>⟨_,_,rfl,by omega,fun j u hu=>by
   rw[Nat.zero_add,cell_of_row _ _ j _ _ (0,0) (heap_alloc_new _ _)]
   simpa [Cx.jG] using hu⟩⟩
 obtain⟨v',w',z,m,B,b⟩:=iq (P:=Tryz.prog) _ d 153 153 37 t _ 2 16 Tryz.underlying153 f g i k rfl (by omega) (aG h a).row s (by omega) (by omega) (by simp;omega)
 have e:l.flatMap Cx.jG++[x].flatMap Cx.jG=(l++[x]).flatMap Cx.jG:=by simp
 rw[e]at m
 obtain⟨A',c',rfl,p⟩:=Own.gX m (fun u hu=>by
  obtain⟨y,_,hu⟩:=ol.1 hu
  exact wS y u hu)
 refine⟨A',c',w',z,p,(Gr.of_below a).trans ⟨B,?_⟩⟩
 rcases b with b | b
 ·exact .inl b
 ·exact .inr ⟨_,b,bG⟩
def sj (e:E):Int×Int:=(e.a,e.n)
def dl (t:T):List (Int×Int):=(leaves t).map fun x=>sj x.2
def sM (ks:List (ByteArray×T)) (k:Nat):List (Int×Int):=(ks.take k).flatMap fun kd=>dl kd.2
theorem Jd (t:T):(dl t).length=(leaves t).length:=by unfold dl;rw[eP]
theorem EH {ks:List (ByteArray×T)} {k:Nat} (h:k<ks.length):sM ks (k+1)=sM ks k++dl (ks[k]).2:=by
 unfold sM;rw[dZ h,List.flatMap_append,tX,List.flatMap_nil,kR]
theorem MS (es:List E) (ks:List (ByteArray×T)) {k:Nat} (h:ks.length=k):dl (.mk es ks)=es.map sj++sM ks k:=by
 unfold dl sM;rw[eO (by omega),dL,mD,List.map_map]
 congr 1
 unfold below;rw[List.map_flatMap]
 congr 1
 funext kd
 rw[List.map_map];rfl
theorem xR:∀ {d:Nat} {t:T},au d t→∀ x∈leaves t,dR x.2
 | d+1,.mk es ks,h,x,a=>by
  rw[dL]at a
  rcases fO.1 a with a | a
  ·obtain⟨e,b,rfl⟩:=dH.1 a
   exact h.1 e b
  ·obtain⟨k,c,a⟩:=ol.1 a
   obtain⟨y,f,rfl⟩:=dH.1 a;exact xR (h.2.2.2 k c).2.2 y f
theorem mH {d:Nat} {t:T} (h:au d t):Cx.goodD (dl t):=fun x a=>by
 obtain⟨y,b,rfl⟩:=dH.1 a;exact (xR h y b).1
theorem Jf:∀ (t:T) (Ae Ak:Option Addr) (ne nk ce ck:Nat) (C:Nat) (A:Option Addr) (n c:Nat) (l:List (Int×Int)) (w:World),n+nodes t≤100000→aF w C t ⟨Ae,ne,ce⟩ ⟨Ak,nk,ck⟩→C≤w.heap.size→Own w C 37 2 A n c (l.flatMap Cx.jG) →
  Calls Tryz.prog 151 #[.slice A n c,.agg #[.slice Ae ne ce,.slice Ak nk ck]] w fun e w'=>∃ A' c',e = .returned (.slice A' (n+(leaves t).length) c')∧Own w' C 37 2 A' (n+(leaves t).length) c' ((l++dl t).flatMap Cx.jG)∧Gr w w' (.slice A n c) (.slice A' (n+(leaves t).length) c'):=by
 intro t
 induction t using T.ind with
 | h es ks ih=>
  intro Ae Ak ne nk ce ck C A n c l w hn hr NR N8;obtain⟨NP,NQ⟩:=bn hr;have HR:=ah hr;have H:=ah NP;have J:=ah NQ;clear NP NQ hr;have IH:=ah ih;have HN:=ah hn;have y:=ah NR;have Oe:=ah N8
  have hne5:ne≤100000:=by have:=bE es ks;have:=H.o;omega
  have hnk5:nk≤100000:=by have:=bE es ks;have:=J.o;omega
  have hn5:n≤100000:=by omega
  have NS:∀ k,(Value.slice A n c).ownBlock=some k→C≤k∧k<w.heap.size:=fun k e=>N8.row.lt k e;have N:=ah NS
  have HM:ai ((leaves (.mk es ks)).length=ne+rC (fun k=>(leaves k.2).length) ks nk):=ah (by rw[rD,C8 _ J.o,H.o])
  have NZ:ai (n+(ne+rC (fun k=>(leaves k.2).length) ks nk)≤100000):=by have:=dw (.mk es ks);have:=HM.o;unfold ai;omega
  clear ih hn NR N8 NS;obtain⟨g,hg⟩:∃ g,g=w.heap.size:=⟨_,rfl⟩;have D:=ah (bQ w Ae Ak ne nk ce ck);rw[← hg]at D;obtain⟨M,Ny⟩:∃ W,W=w.alloc (.cells #[.slice Ae ne ce,.slice Ak nk ck] 35):=⟨_,rfl⟩;rw[← Ny]at D;have HG:=ah hg;have Q:=ah Ny;have k0:=D.c0;have k1:=D.c1;clear hg Ny
  have NJ:ai (Own M C 37 2 A n c (l.flatMap Cx.jG)):=ah (by rw[Q.o];exact aG Oe (Dt.ay _ _ _))
  have f:ai (M.heap.size=g+1∧w.heap.size=g):=⟨by rw[Q.o,HG.o];simp,HG.symm⟩
  have O:ai ((Value.slice A n c).ownBlock≠some g):=fun e=>by have:=(N.o g e).2;have:=f.2;omega
  have R:ai (Gr w M (.slice A n c) (.slice A n c)):=ah (by rw[Q.o];exact Gr.of_below (Dt.ay _ _ _))
  go_enter Tryz.func151,Tryz.ntmps151;go_wp2_with fail;rw[← HG.o,← Q.o];go_wp2_with fail
  go_loopw [0,12] (fun v i wr=>∃ (k:Nat) (Ax:Option Addr) (cx:Nat),k≤ne∧i = .int .i64 k∧v = .slice Ax (n+k) cx∧ai (Own wr C 37 2 Ax (n+k) cx ((l++(es.take k).map sj).flatMap Cx.jG))∧ai (Gr M wr (.slice A n c) (.slice Ax (n+k) cx))) (fun _ i _=>ne-(intOf i).toNat)
  case atStart=>exact⟨0,A,c,by omega,rfl,rfl,by have:=NJ.o;simpa [ai] using this,Gr.refl _ _⟩
  case round=>
   obtain⟨k,Ax,cx,hk,rfl,rfl,HO,d⟩:=hrel;clear k0 k1
   have G:g<M.heap.size:=by have:=f.1;omega
   have k0:=(d.cell (p:=⟨g,0,none⟩) G O).trans D.c0;have k1:=(d.cell (p:=⟨g,1,none⟩) G O).trans D.c1;have Og:g<wr.heap.size:=cO G d.size
   by_cases Nz:k<ne
   ·have u:k<es.length:=by rw[H.o];exact Nz
    obtain⟨b,o,rfl,hb,hc⟩:=uR HR (by omega);obtain⟨c0,c1,c2,c3⟩:=hc k u
    have r:b<M.heap.size:=by have:=y.o;have:=f.1;have:=f.2;omega
    have s:(Value.slice A n c).ownBlock≠some b:=fun e=>by have:=(N.o b e).1;omega
    have B:b<w.heap.size:=by have:=y.o;omega
    have c0:=(d.cell (p:=⟨b,o+k*4,none⟩) r s).trans ((D.below.cell (p:=⟨b,o+k*4,none⟩) B).trans c0);have c1:=(d.cell (p:=⟨b,o+k*4+1,none⟩) r s).trans ((D.below.cell (p:=⟨b,o+k*4+1,none⟩) B).trans c1);have c2:=(d.cell (p:=⟨b,o+k*4+2,none⟩) r s).trans ((D.below.cell (p:=⟨b,o+k*4+2,none⟩) B).trans c2);have c3:=(d.cell (p:=⟨b,o+k*4+3,none⟩) r s).trans ((D.below.cell (p:=⟨b,o+k*4+3,none⟩) B).trans c3)
    have F:ai ((es.take (k+1)).map sj=(es.take k).map sj++[((es[k]).a,(es[k]).n)]):=ah (by rw[dZ u,mD];rfl)
    obtain⟨⟨ea,en,et,ev⟩,hx⟩:∃ x,x=es[k]:=⟨_,rfl⟩;rw[← hx]at c0 c1 c2 c3 F;dsimp only at c0 c1 c2 c3 F;obtain⟨W1,z⟩:∃ W,W=wr.alloc (.cells #[.int .i64 ea,.int .i64 en,.string et,.int .i64 ev] 97):=⟨_,rfl⟩
    have q:av wr W1:=by rw[z];exact Dt.ay _ _ _
    have Oj:=HO.o;obtain⟨A6,c6,w6,r1,r2,r3⟩:=Dj W1 C (wr.heap.size+1) (by rw[z];simp) (aG HO q) (by have S:=d.size;have h2:=q.size;have h3:=y.o;have h4:=f.1;have h5:=f.2;omega) (ea,en) (by omega)
    have Ob:ai (Own w6 C 37 2 A6 (n+(k+1)) c6 ((l++(es.take (k+1)).map sj).flatMap Cx.jG)):=ah (by rw[F.o,← oh];exact r2)
    have NE:ai (Gr M w6 (.slice A n c) (.slice A6 (n+(k+1)) c6)):=d.trans ((Gr.of_below q).trans r3);have NK:=ah r1;have Z:=ah z;clear hc hx z q r1 r2 r3 Oj F s r;go_wp2_with (at_builtin;rw[← Z.o];refine Lib.wpList_append_run _ rfl _ _ _ _ rfl _ _ rfl rfl _ _ NK ?_);go_roundw
    case rel=>exact⟨k+1,A6,c6,by omega,by go_num,rfl,Ob,NE⟩
    case measure=>simp[intOf];omega
   ·obtain rfl:k=ne:=by omega
    have Oa:ai (Own wr C 37 2 Ax (n+k) cx ((l++es.map sj).flatMap Cx.jG)):=by have S:=HO.o;rw[eO (by rw[H.o];omega)]at S;exact S
    have NC:=ah d.o;go_wp2_with fail
    go_loopw [0,25] (fun v i wr=>∃ (j:Nat) (Y:Option Addr) (cy m:Nat),j≤nk∧i = .int .i64 j∧v = .slice Y m cy∧ai (m=n+(k+rC (fun k=>(leaves k.2).length) ks j))∧ai (Own wr C 37 2 Y m cy ((l++es.map sj++sM ks j).flatMap Cx.jG))∧ai (Gr M wr (.slice A n c) (.slice Y m cy))) (fun _ i _=>nk-(intOf i).toNat)
    case atStart=>exact⟨0,Ax,cx,n+k,by omega,rfl,rfl,by rw[Hz];rfl,by have S:=Oa.o;simpa [ai,sM] using S,NC⟩
    case round=>
     obtain⟨j,Y,cy,m,hj,rfl,rfl,NH,HO,d⟩:=hrel;clear k0 k1;have k0:=(d.cell (p:=⟨g,0,none⟩) G O).trans D.c0;have k1:=(d.cell (p:=⟨g,1,none⟩) G O).trans D.c1;have Og:g<wr.heap.size:=cO G d.size
     by_cases Nz:j<nk
     ·have u:j<ks.length:=by rw[J.o];exact Nz
      obtain⟨b,o,rfl,hb,hc⟩:=iJ HR (by omega);obtain⟨⟨N_,NU,NM⟩,⟨NA,NV,NN⟩,c0,c1,c2,X⟩:=hc j u;dsimp only at c0 c1 c2
      have r:b<M.heap.size:=by have:=y.o;have:=f.1;have:=f.2;omega
      have s:(Value.slice A n c).ownBlock≠some b:=fun e=>by have:=(N.o b e).1;omega
      have B:b<w.heap.size:=by have:=y.o;omega
      have c0:=(d.cell (p:=⟨b,o+j*3,none⟩) r s).trans ((D.below.cell (p:=⟨b,o+j*3,none⟩) B).trans c0);have c1:=(d.cell (p:=⟨b,o+j*3+1,none⟩) r s).trans ((D.below.cell (p:=⟨b,o+j*3+1,none⟩) B).trans c1);have c2:=(d.cell (p:=⟨b,o+j*3+2,none⟩) r s).trans ((D.below.cell (p:=⟨b,o+j*3+2,none⟩) B).trans c2);obtain⟨N9,V⟩:∃ N9,N9=(ks[j]).1:=⟨_,rfl⟩;rw[← V]at c0;obtain⟨W1,z⟩:∃ W,W=wr.alloc (.cells #[.string N9,.slice N_ NU NM,.slice NA NV NN] 134):=⟨_,rfl⟩
      have q:av wr W1:=by rw[z];exact Dt.ay _ _ _
      have U:Below C w W1:=by
       have h0:Below C w wr:=(R.trans d).below y (fun k hk=>(N.o k hk).1);exact h0.trans (q.mono (by have S:=d.size;have h2:=y.o;have h4:=f.1;have h5:=f.2;omega))
      have Ol:=zN (fun k=>(leaves k.2).length) u;have Om:=aN (Gj (fun k=>(leaves k.2).length) ks (j+1)) (Nat.le_of_eq (C8 _ J).symm);have N7:=NH.o;have Oi:=NZ.o;have Oh:=dM (es:=es) (bT u)
      have NT:m+nodes (ks[j]).2≤100000:=by
       have S:rC (fun k=>(leaves k.2).length) ks j≤rC (fun k=>nodes k.2) ks j:=by
        unfold rC;exact y7 fun a _=>dw a.2
       have h2:=zN (fun k=>nodes k.2) u;have h3:=aN (Gj (fun k=>nodes k.2) ks (j+1)) (Nat.le_of_eq rfl);have h4:=HN.o;rw[bJ]at h4;have h5:=H.o;omega
      have L:=IH.o _ (bT u) N_ NA NU NV NM NN C Y m cy (l++es.map sj++sM ks j) W1 NT (aF.below X U) (by have S:=d.size;have h2:=q.size;have h3:=y.o;have h4:=f.1;have h5:=f.2;omega) (aG HO q)
      have NI:ai (m+(leaves (ks[j]).2).length=n+(k+rC (fun k=>(leaves k.2).length) ks (j+1))):=FL
      have NY:=ah (EH u);have HC:=ah L;have NW:=ah q;have Z:=ah z;clear hc X V z q U Ol Om N7 Oi Oh NT L s r;go_wp2_with fail;rw[← Z.o];refine HC.mono ?_;rintro e w2 ⟨A7,c7,rfl,r2,r3⟩
      have Oc:ai (Own w2 C 37 2 A7 (m+(leaves (ks[j]).2).length) c7 ((l++es.map sj++sM ks (j+1)).flatMap Cx.jG)):=ah (by rw[NY.o,← oh];exact r2)
      have NF:ai (Gr M w2 (.slice A n c) (.slice A7 (m+(leaves (ks[j]).2).length) c7)):=d.trans ((Gr.of_below NW).trans r3);clear r2 r3;go_wp2_with fail;go_roundw
      case rel=>exact⟨j+1,A7,c7,_,by omega,by go_num,rfl,NI,Oc,NF⟩
      case measure=>simp[intOf];omega
     ·obtain rfl:j=nk:=by omega
      have N7:m=n+(leaves (.mk es ks)).length:=by rw[HM.o];exact NH.o
      subst N7
      have Od:ai (Own wr C 37 2 Y (n+(leaves (.mk es ks)).length) cy ((l++dl (.mk es ks)).flatMap Cx.jG)):=ah (by rw[MS es ks J.o,← oh];exact HO.o)
      have NG:=ah (R.trans d);go_wp2_with fail;go_ret;exact⟨Y,cy,rfl,Od,NG⟩
theorem z8 (t:T) (Ae Ak:Option Addr) (ne nk ce ck:Nat) (w:World) (k:ak 5 t=false) (i:LenT reachBytes t) (j:aF w w.heap.size t ⟨Ae,ne,ce⟩ ⟨Ak,nk,ck⟩) :
  Calls Tryz.prog 122 #[.agg #[.slice Ae ne ce,.slice Ak nk ck]] w fun e w'=>e = .returned (.tuple #[.slice none 0 0,.int .i64 1])∧av w w':=by
 have q:=ah j;have p:=ah i;have r:=ah k;obtain⟨g,h⟩:∃ g,g=w.heap.size:=⟨_,rfl⟩;have a:=ah (bQ w Ae Ak ne nk ce ck);rw[← h]at a;obtain⟨s,c⟩:∃ W,W=w.alloc (.cells #[.slice Ae ne ce,.slice Ak nk ck] 35):=⟨_,rfl⟩;rw[← c]at a;have n:=ah h;have f:=ah c;have l:=a.c0;have m:=a.c1;clear h c;clear j i k;go_enter Tryz.func122,Tryz.ntmps122;go_wp2_with fail;rw[← n.o,← f.o];refine (bS t Ae Ak ne nk ce ck s p (aF.more a.below.size _ (aF.below q a.below))).mono ?_;rw[r.o];rintro e w1 ⟨rfl,d⟩;have b:=ah (a.later d);clear l m d;have l:=b.c0;have m:=b.c1;go_wp2;go_ret2;exact⟨rfl,b.below⟩
theorem uw (t:T) (Ae Ak:Option Addr) (ne nk ce ck:Nat) (w:World) (S:ak 5 t=true) (N:LenT reachBytes t) (O:nodes t≤1000) (R:aF w w.heap.size t ⟨Ae,ne,ce⟩ ⟨Ak,nk,ck⟩) :
  Calls Tryz.prog 122 #[.agg #[.slice Ae ne ce,.slice Ak nk ck]] w fun e w'=>∃ u q A c,e = .returned (.tuple #[.slice A q c,.int .i64 0])∧ai (u.length=q)∧ai (Cx.pG (dl t) u)∧q≤4*nodes t∧ai (Rd w' w'.heap.size 3 A q c (aP u))∧av w w':=by
 have J:=ah O;clear O;have L:=ah R;have Z:=ah N;have M:=ah S;obtain⟨g,h⟩:∃ g,g=w.heap.size:=⟨_,rfl⟩;have b:=ah (bQ w Ae Ak ne nk ce ck);rw[← h]at b;obtain⟨W0,f⟩:∃ W,W=w.alloc (.cells #[.slice Ae ne ce,.slice Ak nk ck] 35):=⟨_,rfl⟩;rw[← f]at b;have Y:=ah h;have F:=ah f;have s:=b.c0;have x:=b.c1;clear h f;clear R N S;go_enter Tryz.func122,Tryz.ntmps122;go_wp2_with fail;rw[← Y.o,← F.o];refine (bS t Ae Ak ne nk ce ck W0 Z (aF.more b.below.size _ (aF.below L b.below))).mono ?_;rw[M.o];rintro e w1 ⟨rfl,i⟩;have a:=ah (b.later i);clear s x i;have s:=a.c0;have x:=a.c1;have X:=ah (Jf t Ae Ak ne nk ce ck w1.heap.size none 0 0 [] w1 (by have:=J.o;omega) (aF.more a.below.size _ (aF.below L a.below)) (bG) (by exact⟨iy _ _ _ _,by simp⟩))
 go_wp2_with fail;refine X.mono ?_;rintro e w2 ⟨U,c2,rfl,H,h⟩;rw[Nat.zero_add]at H h ⊢;have j:av w1 w2:=h.below (bG) (fun k hk=>by simp[Value.ownBlock]at hk);have d:=ah (a.later j);have G:(leaves t).length≤1000:=aN (dw t) J.o;have m:=Cx.Gv (dl t) (leaves t).length U c2 w2 (Jd t) G H.rd;have z:=ah m;have HM:=ah G;clear s x H h j m G;have s:=d.c0;have x:=d.c1;go_wp2_with fail;refine z.mono ?_;rintro e w3 (⟨_,u,q,V,c3,rfl,p,r,Q,n,l⟩ | ⟨hno,_⟩)
 ·have y:=ah (d.later l).below
  have C:=ah p;have D:=ah r;have B:=ah n;have HQ:=ah Q;clear l p r n Q;go_wp2;go_ret2;exact⟨u,q,V,c3,rfl,C,D,by have:=HQ.o;have:=dw t;omega,B,y⟩
 ·exact absurd (mH (aO.1 M)) hno
end Tr
end
section
open Go.RowKit Go.Shelf
namespace Tr
open Sp Rw
attribute [local go_sem] Oper.semAt_some

def upto {α:Type} (f:Nat→α) (k:Nat):List α:=(List.range k).map f
theorem og {α:Type} (f:Nat→α) (k:Nat):upto f (k+1)=upto f k++[f k]:=by simp[upto,List.range_succ]
theorem vR {α:Type} (f:Nat→α) (k:Nat):(upto f k).length=k:=by simp[upto]
def fG (n₀:Nat) (W:World) (A:Option Addr) (len:Nat) (f:Nat→ByteArray):Prop:=∀ j,j<len→∃ b o,A=some ⟨b,o,none⟩∧b<n₀∧W.cell? ⟨b,o+j,none⟩=some (.string (f j))
theorem fG.below {n₀:Nat} {W c:World} {A:Option Addr} {len:Nat} {f:Nat→ByteArray} (h:fG n₀ W A len f) (d:Below n₀ W c):fG n₀ c A len f:=fun j i=>by
 obtain⟨b,o,e,a,g⟩:=h j i;exact⟨b,o,e,a,(d.cell (p:=⟨b,o+j,none⟩) a).trans g⟩
theorem fG.xI {W:World} {B:Nat} {A:Option Addr} {n c:Nat} {l:List ByteArray} (h:Rd W B 1 A n c (strs l)):fG B W A n (fun j=>l[j]?.getD ByteArray.empty):=fun j hj=>by
 obtain⟨b,o,e,a,d⟩:=h.at_ (by omega)
 have hl:l.length=n:=by have:=h.len;simpa [strs] using this
 exact⟨b,o,e,a,d j _ (by simp[strs,show j<l.length by omega])⟩
theorem K3 (l:List ByteArray) {n:Nat} (h:l.length=n):upto (fun j=>l[j]?.getD ByteArray.empty) n=l:=by
 subst h
 apply List.ext_getElem
 ·simp[upto]
 ·intro i h1 a
  simp[upto,a]

set_option maxRecDepth 100000 in
set_option maxHeartbeats 2000000 in
theorem FH (F:Fence) (n:Nat) (u:F.fn 199) (m:F.round=none) (hn:1≤n) (l p n₀ len cap:Nat) (A:Option Addr) (f:Nat→ByteArray) (hreach:len≤1000000) (J q:List ByteArray→World→Prop)
  (y:∀ pre x W,J pre W→pre.length<len→YieldAt F (n-1) Tryz.prog l #[.string x] W fun e a=>
   (e = .returned (.bool true)∧J (pre++[x]) a∧Below n₀ W a)∨(e = .returned (.bool false)∧q (pre++[x]) a))
  (W:World) (hBs:W.cell? ⟨p,0,none⟩=some (.slice A len cap)) (r:fG n₀ W A len f) (t:J [] W) :
  CallsIn F n Tryz.prog 199 #[.func (.yield l) #[] #[],.pointer (some ⟨p,0,none⟩)] W fun e a=>(∃ v,e = .returned v) ∧
   ((∃ ys,ys=upto f len∧J ys a)∨(∃ pre,(∃ k,k≤len∧pre=upto f k)∧q pre a)):=by
 have s:=ah r;clear r;refine callsIn_of_wp Tryz.func199 rfl u ?_ m;simp only[Tryz.ntmps199,List.size_toArray,lY,List.length_nil,Nat.reduceAdd,Nat.reduceSub,Array.replicate_succ,Array.replicate_zero,List.push_toArray,List.append_toArray,List.nil_append,List.cons_append]
 gi_wp2
 gi_loopw [7] (fun i wr=>∃ k:Nat,k≤len∧i = .int .i64 k∧J (upto f k) wr∧Below n₀ W wr)
  (fun i _=>len-(intOf i).toNat)
 case atStart=>exact⟨0,Nat.zero_le _,rfl,t,bN⟩
 case round=>
  obtain⟨k,hk,rfl,c,g⟩:=hrel
  by_cases d:k<len
  ·obtain⟨b,o,rfl,hb,hcx⟩:=(s.below g) k d
   obtain⟨fn,tmps,assign,body,hy,w⟩:=y _ (f k) wr c (by rw[vR];exact d)
   gi_wp2
   refine w.mono ?_;rintro e W3 (⟨rfl,h,j⟩ | ⟨rfl,hJx3⟩)
   ·gi_wp2
    go_roundw
    case rel=>exact⟨k+1,by omega,by simp,by rw[og];exact h,g.trans j⟩
    case measure=>simp[intOf];omega
   ·gi_wp2
    refine bodyPost_ret (results_none rfl _ _ _) rfl ?_;exact⟨⟨_,rfl⟩,.inr ⟨_,⟨k+1,by omega,(og _ _).symm⟩,hJx3⟩⟩
  ·obtain rfl:k=len:=by omega
   gi_wp2
   go_end0
   exact⟨⟨_,rfl⟩,.inl ⟨_,rfl,c⟩⟩
theorem values_stops (F:Fence) (n:Nat) (j:F.fn 199) (e:F.round=none) (s:1≤n) (b n₀ len cap:Nat) (A:Option Addr) (f:Nat→ByteArray) (a:len≤1000000) (w:World) (c:b<w.heap.size) (d:n₀≤w.heap.size)
  (r:w.cell? ⟨b,0,none⟩=some (.slice A len cap)) (m:fG n₀ w A len f) :
  SeqStopsK F n Tryz.prog 199 #[.pointer (some ⟨b,0,none⟩)] (fun x:ByteArray=>#[Value.string x]) (Below n₀) (fun ys=>ys=upto f len) (fun pre=>∃ k,k≤len∧pre=upto f k) len w:=fun l J h W g _ _ q i=>
 FH F n j e s l b n₀ len cap A f a J h q W ((g.cell (p:=⟨b,0,none⟩) c).trans r) (m.below (g.mono d)) i

theorem vH:(Tryz.prog.info? 9).map (fun i=>(i.zero,i.size,i.bytes))=some (some (.string ⟨#[]⟩),1,16):=by kernel_rfl
set_option maxRecDepth 100000 in
set_option maxHeartbeats 4000000 in
theorem appendSeq_in (F:Fence) (n:Nat) (Q:F.fn 219) (M:F.fn 199) (k:F.round=none) (hn:3≤n) (g len cap:Nat) (A:Option Addr) (f:Nat→ByteArray) (d:len≤1000000) (w:World)
  (u:g<w.heap.size) (y:w.cell? ⟨g,0,none⟩=some (.slice A len cap)) (S:fG w.heap.size w A len f) :
  CallsIn F n Tryz.prog 219 #[.slice none 0 0,.func (.func 199) #[] #[.pointer (some ⟨g,0,none⟩)]] w fun e L=>∃ v,e = .returned v∧L.ownsRow w.heap.size 9 1 v (upto f len).length ((upto f len).map Value.string)∧av w L:=by
 have O:1≤n:=by omega
 obtain⟨X,hi,G,H,J⟩:=info_parts vH;refine callsIn_of_wp_marks Tryz.func219 rfl Q ?_ k;simp only[Tryz.ntmps219,List.size_toArray,lY,List.length_nil,Nat.reduceAdd,Nat.reduceSub,Array.replicate_succ,Array.replicate_zero,List.push_toArray,List.append_toArray,List.nil_append,List.cons_append]
 gi_wp2
 have N:=Boxed.new w 25 (.slice none 0 0);have i:av w (w.alloc (.cells #[.slice none 0 0] 25)):=(Below.refl _ w).alloc (bG) _
 refine wpIn_rangeFunc_ownG k O (gf:=199) (lb:=#[.pointer (some ⟨g,0,none⟩)]) rfl M (enters_of Tryz.func199 (by kernel_rfl) rfl)
  (values_stops F (n-1) M k (by omega) g w.heap.size len cap A f d _ (by simp;omega) (by simp) ((i.cell (p:=⟨g,0,none⟩) u).trans y) (S.below i)) belowK_t (belowK_b (by simp)) (bN) (fun _=>rfl)
  (fun pre W=>(∃ v,Boxed W w.heap.size 25 v∧W.ownsRow w.heap.size 9 1 v pre.length (pre.map Value.string)∧True)∧av w W)
  (fun _ _ _=>False)
  (OwnFrom.and (Own.from (holdsRow_own w.heap.size w.heap.size 25 9 1 (fun pre:List ByteArray=>pre.length) (fun pre=>pre.map Value.string) (fun _ _=>True)) _) (ownFrom_below (bG) (by simp)))
  (fun _ _ _ _ _ V _ _=>V)
  ⟨⟨_,N,iy _ _ _ _,trivial⟩,i⟩
  (fun x=>{ tmps:=#[.slice none 0 0,.func (.func 199) #[] #[.pointer (some ⟨g,0,none⟩)],.pointer (some ⟨w.heap.size,0,none⟩),undef,.slice none 0 0,.string x,.func (.func 199) #[] #[.pointer (some ⟨g,0,none⟩)],.string x,undef,undef,undef,undef,undef],defers:=[] }) ?assign ?body ?done ?stop
 case assign=>
  intro l x W K q
  gi_wp2
  exact q
 case body=>
  rintro l pre x W ⟨⟨v,t,a,_⟩,m⟩ hlt;have U:=t.cell
  gi_wp2_with (gi_at_builtin;refine wpListIn_append_own _ rfl _ _ 25 rfl w.heap.size 9 X (.string ⟨#[]⟩) 1 16 Tryz.underlying25 hi G H J rfl (by decide) _ _ _ rfl (a.alloc _) ⟨W.heap.size,0,none⟩ 1 1 [.string x] rfl rfl (cell_one_new _ _ _) (by simp[Value.oneCell']) (by have:maxLen=9223372036854775807:=rfl;omega) (by omega) (by have:=m.size;simp;omega) ?_;intro v' w1 b j _;obtain⟨g',cap',rfl⟩:=ownsRow_succ b;obtain⟨s,C,B,z,r⟩:=t.appended (by decide) a m.size (bG) b j;have hc1:=s.cell;have hf1:=s.frozen)
  exact⟨z.from _,r,⟨_,C,by simpa using B,trivial⟩,m.trans r⟩
 case done=>
  rintro D ys W R rfl ⟨⟨v,t,a,_⟩,m⟩ q;have U:=t.cell
  gi_wp2
  refine⟨by simp,.inl ⟨_,_,rfl,run_takeDeferred q,?_⟩⟩;exact⟨_,results_tmp rfl _ _ _,v,rfl,ownsRow_putObj a _ q rfl,m.trans (belowK_b (w:=w) (bG) W D _ _ (by simp at R;omega) q rfl rfl)⟩
 case stop=>
  rintro D c pre W _ _ h _;exact h.elim
theorem yJ (d len cap:Nat) (A:Option Addr) (l:List ByteArray) (w:World) (g:l.length=len) (a:len≤1000000) (c:w.cell? ⟨d,0,none⟩=some (.slice A len cap)) (j:Rd w w.heap.size 1 A len cap (strs l)) :
  Calls Tryz.prog 219 #[.slice none 0 0,.func (.func 199) #[] #[.pointer (some ⟨d,0,none⟩)]] w fun e f=>∃ A' c',e = .returned (.slice A' len c')∧Own f w.heap.size 9 1 A' len c' (strs l)∧av w f:=by
 refine callsIn_wide.1 ((appendSeq_in Fence.wide 6 trivial trivial rfl (by omega) d len cap A _ a w (aL w _ c) c (fG.xI j)).mono ?_);rintro e f ⟨v,rfl,b,h⟩;rw[K3 l g,g]at b;obtain⟨A',c',rfl,i⟩:=Own.gX b (jD l);exact⟨A',c',rfl,i,h⟩
theorem BX (c len cap:Nat) (A:Option Addr) (l:List ByteArray) (w:World) (g:l.length=len) (a:len≤1000000) (b:w.cell? ⟨c,0,none⟩=some (.slice A len cap)) (i:Rd w w.heap.size 1 A len cap (strs l)) :
  Calls Tryz.prog 198 #[.func (.func 199) #[] #[.pointer (some ⟨c,0,none⟩)]] w fun e d=>∃ A' c',e = .returned (.slice A' len c')∧Own d w.heap.size 9 1 A' len c' (strs l)∧av w d:=by
 have k:=ah (yJ c len cap A l w g a b i);clear g a b i;go_enter Tryz.func198,Tryz.ntmps198;go_wp2_with fail;refine k.mono ?_;rintro e d ⟨A',c',rfl,h,f⟩;have m:=ah h;have j:=ah f;clear h f;go_wp2_with fail;go_ret;exact⟨A',c',rfl,m,j⟩
end Tr
end
section
open Go.RowKit Go.Shelf Go.Sort
namespace Tr
open Sp Rw
theorem CB:∀ x y:List UInt8,x<y↔Op.bytesLess x y=true
  | [],[]=>by simp[Op.bytesLess]
  | [],_::_=>by simp[Op.bytesLess]
  | _::_,[]=>by simp[Op.bytesLess]
  | x::a,y::b=>by
    rw[List.cons_lt_cons_iff,CB a b];simp[Op.bytesLess]
theorem sN (x y:List UInt8):decide (x≤y) = !Op.bytesLess y x:=by
  have h:=CB y x;have a:x≤y↔¬y<x:=Iff.rfl
  cases b:Op.bytesLess y x with
  | true => rw [aM]; · rfl
            rw[a,h,b];simp
  | false => rw [aJ]; · rfl
             rw[a,h,b];simp
def rX (b:ByteArray):List UInt8:=b.data.toList
def K_ (l:List UInt8):ByteArray:=⟨l.toArray⟩
theorem CV (b:ByteArray):K_ (rX b)=b:=by unfold K_ rX;rw[Array.toArray_toList]
theorem G9 (l:List UInt8):rX (K_ l)=l:=rfl
def kU (l:List ByteArray):List ByteArray:=((l.map rX).mergeSort fun x y=>decide (x≤y)).map K_
theorem Ag (l:List ByteArray):(kU l).length=l.length:=by unfold kU;rw[eP,List.length_mergeSort,eP]
theorem vg {l:List ByteArray} {x:ByteArray} : x∈kU l↔x∈l:=by
  unfold kU;constructor
  · intro h
    obtain⟨y,a,rfl⟩:=dH.1 h;obtain⟨z,b,rfl⟩:=dH.1 (List.mem_mergeSort.1 a);rw[CV];exact b
  · intro h
    refine dH.2 ⟨rX x,List.mem_mergeSort.2 (dH.2 ⟨x,h,rfl⟩),CV x⟩
theorem yg (l:List ByteArray):(kU l).Pairwise fun a b=>¬cK b a:=by
  unfold kU;rw[List.pairwise_map];refine (List.pairwise_mergeSort (fun a b c g e=>?_) (fun a b=>?_) (l.map rX)).imp fun {a b} h=>?_
  · rw[sN]at g e ⊢
    simp only[Bool.not_eq_true']at g e ⊢
    cases f:Op.bytesLess c a with
    | false=>rfl
    | true=>
      rcases iX a b with d | d | d
      · have:=kW c a b f d;rw[e]at this;cases this
      · subst d;rw[e]at f;cases f
      · rw[g]at d;cases d
  · rw[sN,sN]
    cases f:Op.bytesLess b a with
    | false=>rfl
    | true=>
      cases d:Op.bytesLess a b with
      | false=>rfl
      | true=>
        have:=kW a b a d f;rw[mV]at this
        cases this
  · rw[sN]at h
    unfold cK;rw[nu,nu];show ¬Op.bytesLess (rX (K_ b)) (rX (K_ a))=true;rw[G9,G9];intro e;rw[e]at h
    cases h
theorem yo (l:List ByteArray):strs l=(l.map rX).map encStr:=by
  unfold strs;rw[List.map_map];refine List.map_congr_left fun b _=>?_;show Value.string b=Value.string (K_ (rX b));rw[CV]
theorem Ir (l:List ByteArray):strs (kU l)=((l.map rX).mergeSort fun x y=>decide (x≤y)).map encStr:=by
  unfold strs kU;rw[List.map_map];rfl
theorem Ah (l:List ByteArray) (n:Nat) (A:Option Addr) (c base:Nat) (w:World) (i:l.length=n) (hn:n≤900000) (j:Own w base 9 1 A n c (strs l)) (s:base≤w.heap.size) :
    Calls Tryz.prog 149 #[.slice A n c] w fun e w'=>e = .returned (.tuple #[])∧Own w' base 9 1 A n c (strs (kU l))∧Below base w w':=by
  rcases Nat.eq_zero_or_pos n with b | b
  · subst b
    have:l=[]:=DZ i;subst this;refine (Go.Proofs.AnyG.slices_Sort_string_none Af A c w).mono ?_;rintro e w' ⟨rfl,rfl⟩;exact⟨rfl,by rw[show kU []=[] from by unfold kU;simp];exact j,bN⟩
  · subst i
    rcases j.row.2 with ⟨_,h⟩ | ⟨g,cap,cur,u,t,a,p,q,r,d⟩
    · omega
    · injection u with e1 _ e3
      subst e1;subst e3;rw[Nat.mul_one,yo]at d;have m:=Go.Proofs.AnyG.slices_Sort_string Af g 0 c (l.map rX) w (holds_of_block a (by simpa using d)) (IC.1 a).1 (by rw[eP];omega);rw[eP]at m;refine m.mono ?_;rintro e w' ⟨rfl,k,os,rfl⟩;refine⟨rfl,⟨?_,jD _⟩,(Below.refl base w).grown (grownBy_sorted _) s (fun k f=>by injection f with f;omega)⟩;rw[Ir];have:=ownsRow_sorted (n:=k) (os:=os) (ss:=l.map rX) (ts:=(l.map rX).mergeSort fun x y=>decide (x≤y)) (List.length_mergeSort _) t a (by rw[eP];exact p) q r;rw[eP]at this;exact this
theorem Fy (f len cap:Nat) (A:Option Addr) (l:List ByteArray) (w:World) (h:l.length=len) (a:len≤900000) (c:w.cell? ⟨f,0,none⟩=some (.slice A len cap)) (j:Rd w w.heap.size 1 A len cap (strs l)) :
    Calls Tryz.prog 171 #[.func (.func 199) #[] #[.pointer (some ⟨f,0,none⟩)]] w fun e i=>∃ A' c',e = .returned (.slice A' len c')∧Own i w.heap.size 9 1 A' len c' (strs (kU l))∧av w i:=by
  have m:=ah (BX f len cap A l w h (by omega) c j);have n:=ah h;clear h c j;go_enter Tryz.func171,Tryz.ntmps171;go_wp2_with fail;refine m.mono ?_;rintro e r ⟨A',c',rfl,d,b⟩;have q:=ah (Ah l len A' c' w.heap.size r n a d b.size);have k:=ah b;clear d b;go_wp2_with fail;refine q.mono ?_;rintro e W2 ⟨rfl,d,b⟩;have p:=ah d;have g:=ah (k.trans b);clear d b;go_wp2_with fail;go_ret;exact⟨A',c',rfl,p,g⟩
end Tr
end
section
open ChangeShapes WideShapes ChangeAt RowKit
namespace Tr
open Sp Rw
theorem J7:(Tryz.prog.info? 97).map (fun i=>(i.zero,i.size,i.bytes))=some (some (.agg #[.int .i64 0,.int .i64 0,.string ⟨#[]⟩,.int .i64 0]),4,40):=by kernel_rfl
theorem qV:(Tryz.prog.info? 134).map (fun i=>(i.zero,i.size,i.bytes))=some (some (.agg #[.string ⟨#[]⟩,.slice none 0 0,.slice none 0 0]),3,64):=by kernel_rfl
theorem FI (A:Option Addr) (n c:Nat) (w:World):Calls Tryz.prog 172 #[.slice A n c] w fun e w'=>e = .returned (.func (.func 199) #[] #[.pointer (some ⟨w.heap.size,0,none⟩)])∧w'=w.alloc (.cells #[.slice A n c] 25):=by
 go_enter Tryz.func172,Tryz.ntmps172;go_wp2;go_ret;exact⟨rfl,rfl⟩
open Classical in
noncomputable def LG (l:List ByteArray) (k:ByteArray):Bool:=decide (k∈l)
open Classical in
theorem AY {l:List ByteArray} {k:ByteArray} : LG l k=true↔k∈l:=eG
theorem KW (k:ByteArray):LG [] k=false:=by
 cases h:LG [] k with
 | false=>rfl
 | true=>exact absurd (AY.1 h) (by simp)
theorem EG (f:ByteArray→Bool) {ks:List (ByteArray×T)} {k:Nat} (h:k<ks.length):nL f (ks.take (k+1))=if f (ks[k]).1 then nL f (ks.take k)++[ks[k]]else nL f (ks.take k):=by
 unfold nL;rw[dZ h,List.filter_append,List.filter_cons,List.filter_nil]
 split <;> simp
theorem Ht (ks:List (ByteArray×T)) {f:ByteArray→Bool} (h:∀ k,f k=true):nL f ks=ks:=by
 unfold nL;rw[List.filter_eq_self];exact fun k _=>h k.1
set_option maxHeartbeats 800000 in
theorem Ck (es:List E) (ks:List (ByteArray×T)) (Ae Ak:Option Addr) (ne nk ce ck:Nat) (w:World) (hn:ne≤900000) (q:aF w w.heap.size (.mk es ks) ⟨Ae,ne,ce⟩ ⟨Ak,nk,ck⟩) :
  Calls Tryz.prog 142 #[.agg #[.slice Ae ne ce,.slice Ak nk ck]] w fun e w'=>∃ A' c',e = .returned (.slice A' ne c')∧Own w' w.heap.size 97 4 A' ne c' (bV es)∧av w w':=by
 have a:av w (w.alloc (.cells #[.slice Ae ne ce,.slice Ak nk ck] 35)):=Dt.ay _ _ _;have c:=q;rw[gL]at c;have b:=(c.2.1.below a).more a.size;have f:=c.1;clear q c;dsimp only at b f;obtain⟨W,g⟩:∃ W,W=w.alloc (.cells #[.slice Ae ne ce,.slice Ak nk ck] 35):=⟨_,rfl⟩;rw[← g]at b a;obtain⟨A,h,i,j,l⟩:=dO J7;obtain⟨v',w',r,m,s,_⟩:=iq (P:=Tryz.prog) W w.heap.size 32 32 97 A _ 4 40 Tryz.underlying32 h i j l rfl (by omega) (v:=.slice none 0 0) (n:=0) (xs:=[]) (iy _ _ _ _) b (by omega) (by omega) a.size;rw[List.nil_append,Nat.zero_add]at m;obtain⟨A',c',rfl,p⟩:=Own.gX m (fun u hu=>b.one u hu);have x:=ah p
 have t:=ah (a.grown s a.size (fun k z=>by simp[Value.ownBlock]at z));have d:=ah r;have y:=ah g;clear b r m s p a g f;go_enter Tryz.func142,Tryz.ntmps142;go_wp2_with (at_builtin;rw[← y.o];refine Lib.wpList_append_run _ rfl _ _ _ _ rfl _ _ rfl rfl _ _ d ?_);go_ret;exact⟨A',c',rfl,x,t⟩
def Eh (t:T) (ne nk:Nat) (w:World) (e:Ending) (w':World):Prop:=∃ Ae ce Ak ck,e = .returned (.agg #[.slice Ae ne ce,.slice Ak nk ck])∧aX w' (fun b=>w.heap.size≤b) t ⟨Ae,ne,ce⟩ ⟨Ak,nk,ck⟩∧av w w'
def LX (f:ByteArray→Bool) (ks:List (ByteArray×T)) (w:World) (e:Ending) (w':World):Prop:=∃ base A m c kr,e = .returned (.slice A m c)∧w.heap.size≤base∧base≤w'.heap.size∧bK w' base 134 A m c (nL f ks) kr∧av w w'
theorem Lc (es:List E) (ks:List (ByteArray×T)) (ih:∀ k∈ks,∀ (Ae Ak:Option Addr) (ne nk ce ck:Nat) (w:World),nodes k.2≤100000→aF w w.heap.size k.2 ⟨Ae,ne,ce⟩ ⟨Ak,nk,ck⟩→Calls Tryz.prog 103 #[.agg #[.slice Ae ne ce,.slice Ak nk ck]] w (Eh k.2 ne nk w))
  (l:List ByteArray) (A:Option Addr) (n c:Nat) (am:Bool) (Ae Ak:Option Addr) (ne nk ce ck:Nat) (w:World) (hl:l.length=n) (hn5:n≤100000) (Ol:Rd w w.heap.size 1 A n c (strs l)) (hn:nodes (.mk es ks)≤100000) (hr:aF w w.heap.size (.mk es ks) ⟨Ae,ne,ce⟩ ⟨Ak,nk,ck⟩) :
  Calls Tryz.prog 143 #[.agg #[.slice Ae ne ce,.slice Ak nk ck],.slice A n c,.bool am] w (LX (fun k=>LG l k==am) ks w):=by
 obtain⟨Oh,Oi⟩:=bn hr;have HR:=ah hr;have HLE:=ah Oh;have NR:=ah Oi;clear Oh Oi hr;have Ou:=ah ih;have HN:=ah hn;have HL:=ah hl
 have hnk:nk≤100000:=by have:=bE es ks;have:=NR.o;omega
 have Ox:=ah Ol;obtain⟨f,hf⟩:∃ f:ByteArray→Bool,f=fun k=>LG l k==am:=⟨_,rfl⟩;rw[← hf];have HF:=ah hf;clear ih hn hl Ol hf;obtain⟨g,hg⟩:∃ g,g=w.heap.size:=⟨_,rfl⟩;have HK:=ah (bQ w Ae Ak ne nk ce ck);rw[← hg]at HK;obtain⟨W0,NS⟩:∃ W,W=w.alloc (.cells #[.slice Ae ne ce,.slice Ak nk ck] 35):=⟨_,rfl⟩;rw[← NS]at HK;have HG:=ah hg;have O0:=ah NS;have k0:=HK.c0;have k1:=HK.c1;clear hg NS;go_enter Tryz.func143,Tryz.ntmps143;go_wp2_with fail;rw[← HG.o,← O0.o];refine (FI A n c W0).mono ?_;rintro e w1 ⟨rfl,NU⟩
 have q:av W0 w1:=by rw[NU];exact (bN).alloc (bG) _
 have G:=ah (HK.later q)
 have Og:w1.cell? ⟨W0.heap.size,0,none⟩=some (.slice A n c):=by rw[NU];go_simp
 have Oa:=ah (Fy W0.heap.size n c A l w1 HL (by omega) Og ((Ox.below G.below).more G.below.size));clear q NU Og k0 k1;go_wp2_with fail;refine Oa.mono ?_;rintro e w2 ⟨As,cs,rfl,Oj,Oc⟩;have Y:=ah (G.later Oc);have Oz:=ah Oj.rd;have k0:=Y.c0;have k1:=Y.c1;clear Oj Oc Oa;go_wp2_with fail
 go_loopw [8,19] (fun s i wr=>∃ (k:Nat) (X:Option Addr) (m cx:Nat) (kr:List (ByteArray×SV×SV)),k≤nk∧i = .int .i64 k∧s = .slice X m cx∧m≤k∧ai (bK wr w2.heap.size 134 X m cx (nL f (ks.take k)) kr)∧ai (av w2 wr)) (fun _ i _=>nk-(intOf i).toNat)
 case atStart=>exact⟨0,none,0,0,[],by omega,rfl,rfl,by omega,bK.nil _ _ _,bN⟩
 case round=>
  obtain⟨k,X,m,cx,kr,hk,rfl,rfl,hmk,Z,F⟩:=hrel;have x:=ah (Y.later F);clear k0 k1;have k0:=x.c0;have k1:=x.c1
  by_cases O1:k<nk
  ·have N_:k<ks.length:=by rw[NR.o];exact O1
   obtain⟨b,o,rfl,hb,hc⟩:=iJ HR (by omega);obtain⟨⟨Q,u,Nz⟩,⟨U,v,N8⟩,c0,c1,c2,NK⟩:=hc k N_;dsimp only at c0 c1 c2;have c0:=(x.below.cell (p:=⟨b,o+k*3,none⟩) hb).trans c0;have c1:=(x.below.cell (p:=⟨b,o+k*3+1,none⟩) hb).trans c1;have c2:=(x.below.cell (p:=⟨b,o+k*3+2,none⟩) hb).trans c2;obtain⟨d,O⟩:∃ d,d=(ks[k]).1:=⟨_,rfl⟩;rw[← O]at c0;clear hc
   have NJ:ks[k]=(d,(ks[k]).2):=by rw[O]
   have NZ:=ah NJ;clear NJ;obtain⟨p,W1,hp,Ob,q,-,-,-⟩:=rW wr (.string d) (.slice Q u Nz) (.slice U v N8) 134;have NT:=x.later q;have NN:=aF.more NT.below.size _ (aF.below NK NT.below);have G:=ah NT;have L:=ah Ob;clear Ob q NK
   have p0:W1.cell? ⟨p,0,none⟩=some (.string d):=by rw[L.o,hp];go_simp
   have p1:W1.cell? ⟨p,1,none⟩=some (.slice Q u Nz):=by rw[L.o,hp];go_simp
   have p2:W1.cell? ⟨p,2,none⟩=some (.slice U v N8):=by rw[L.o,hp];go_simp
   have q:av wr W1:=by rw[L.o];exact Dt.ay _ _ _
   have C:=ah (F.trans (q.mono F.size));have NF:=ah (Z.later q);have Ov:=ah ((((G.af p2).af p1).af p0));have HP:=ah hp
   have NM:(Value.slice X m cx).ownBlock≠some p:=fun e=>by have:=(Z.own.row.lt p e).2;omega
   have J:=ah NM;have Oy:=ah (D8 (kU l) n As cs d W1 (by rw[Ag];exact HL.o) (by omega) ((Oz.below (C.o)).more C.size) (yg l));have Ow:=ah NN;clear NN O hp q NM F;go_wp2_with fail;rw[← HP.o,← L.o];refine Oy.mono ?_;rintro e w3 ⟨i3,z,rfl,⟨Oo,Oq⟩,M⟩
   have HZ:ai (z=LG l d):=by
    unfold ai
    cases z with
    | true=>exact (AY.2 (vg.1 (Oo rfl))).symm
    | false=>
     cases h:LG l d with
     | false=>rfl
     | true=>exact absurd (vg.2 (AY.1 h)) (Oq rfl)
   have D:=ah (C.trans (M.mono C.size));have H:=ah (NF.later M);have Ny:=ah (Ov.later M);have t:=EG f N_;rw[NZ.o]at t;dsimp only at t
   have NY:ai (f d=(z==am)):=ah (by rw[HF.o,HZ.o])
   have NE:=ah M;clear Oo Oq M p0 p1 p2 Z NF C;obtain⟨s0,s1,s2,-⟩:=Ny.cj
   by_cases NC:z=am
   ·subst NC
    have N:f d=true:=by rw[NY.o];exact beq_self_eq_true z
    rw[N,if_pos rfl]at t;have NQ:=ah t;clear t N;have hsz3:w3.heap.size=w3.drew.heap.size:=rfl;go_wp2_with fail;have NV:ai (av W1 w3.drew):=NE.drew;have NW:ai (W1.heap.size≤w3.drew.heap.size):=NE.size;refine Rk (S:=fun W=>W.cell? ⟨p,0,none⟩=some (.string d)∧W.cell? ⟨p,1,none⟩=some (.slice Q u Nz)∧W.cell? ⟨p,2,none⟩=some (.slice U v N8)) (fun hHeld=>?_);refine T4 0 33 1 34 2 35 3 36 ?_;refine Tk 4 37 ?_;refine Tc 5 (fun K hK=>?_);go_simp;(go_at_call 103;refine (Ou.o _ (bT N_) Q U u v Nz N8 w3.drew (aN (dM (bT N_)) HN) (aF.more NW _ (aF.below Ow NV))).mono ?_);rintro e w4 ⟨R,N7,V,N9,rfl,Om,Od⟩
    have r:av w3 w4:=((Below.refl w3.heap.size w3).drew).trans Od;have Ny:=ah (Ny.later r);have j:=H.later r;have hu:aX w4 (fun b=>w2.heap.size≤b∧(Value.slice X m cx).ownBlock≠some b) (ks[k]).2 ⟨R,u,N7⟩ ⟨V,v,N9⟩:=aX.mono (fun b hb _=>⟨aN D.size hb,fun e=>by have h1:=(H.own.row.lt b e).2;have h2:w3.drew.heap.size≤b:=hb;have h3:w3.drew.heap.size=w3.heap.size:=rfl;omega⟩) _ Om;obtain⟨A5,c5,w5,r1,NG,Oe,B⟩:=bK.push (k:=(d,⟨R,u,N7⟩,⟨V,v,N9⟩)) Tryz.underlying33 qV rfl (by omega) j w4.heap.size rfl (aN D.size r.size) hu (by omega) #[.string d,.slice R u N7,.slice V v N9] rfl;obtain⟨t0,t1,t2,-⟩:=Ny.cj;have NA:p<w4.heap.size:=aL w4 _ t0;have u0:w5.cell? ⟨p,0,none⟩=_:=(bU (a:=⟨p,0,none⟩) (B p J NA)).trans t0
    have u1:w5.cell? ⟨p,1,none⟩=_:=(bU (a:=⟨p,1,none⟩) (B p J NA)).trans t1;have u2:w5.cell? ⟨p,2,none⟩=_:=(bU (a:=⟨p,2,none⟩) (B p J NA)).trans t2;have NH:=ah r1;have HU:=ah (And.intro u0 (And.intro u1 u2))
    have NP:ai (bK w5 w2.heap.size 134 A5 (m+1) c5 (nL f (ks.take (k+1))) (kr++[(d,⟨R,u,N7⟩,⟨V,v,N9⟩)])):=ah (by rw[NQ.o];exact NG)
    have Ot:=ah ((D.trans (r.mono D.size)).trans Oe);clear Om Od r hu r1 NG Oe B u0 u1 u2 NA j;clear hHeld;refine Th hK ?_ (fun hHeld=>?_)
    ·exact⟨t0,t1,t2⟩
    clear hK K;refine Tk 6 39 ?_;refine Tc 7 (fun K hK=>?_);go_simp;refine Th hK ?_ (fun y=>?_)
    ·(try dsimp only);go_keep
    clear hK K hHeld;have hHeld:=y;clear y;refine Tc 8 (fun K hK=>?_);refine bg _ _ _ rfl rfl rfl NH ?_;clear hHeld;refine Th hK ?_ (fun hHeld=>?_)
    ·exact HU.o
    clear hK K;refine Tk 9 8 ?_;refine Td ?_;clear t0 t1 t2 s0 s1 s2 NH hHeld;go_wp2_with fail;go_roundw
    case rel=>exact⟨k+1,A5,m+1,c5,_,by omega,by go_num,rfl,by omega,NP,Ot⟩
    case measure=>simp[intOf];omega
   ·have N:f d=false:=by rw[NY.o];exact gP.2 NC
    rw[N,if_neg (by simp)]at t;have NQ:=ah t;have fzb:(z==am)=false:=gP.2 NC
    have j:ai (bK w3 w2.heap.size 134 X m cx (nL f (ks.take (k+1))) kr):=ah (by rw[NQ.o];exact H.o)
    clear t N NC;go_wp2_with fail;go_roundw
    case rel=>exact⟨k+1,X,m,cx,kr,by omega,by go_num,rfl,by omega,j,D⟩
    case measure=>simp[intOf];omega
  ·obtain rfl:k=nk:=by omega
   have NI:ks.take k=ks:=eO (by rw[NR.o];omega)
   have j:ai (bK wr w2.heap.size 134 X m cx (nL f ks) kr):=by have:=Z.o;rwa [NI]at this
   clear NI;go_wp2_with fail;go_ret;exact⟨w2.heap.size,X,m,cx,kr,rfl,Y.below.size,F.size,j,x.below⟩
theorem rf:∀ (t:T) (Ae Ak:Option Addr) (ne nk ce ck:Nat) (w:World),nodes t≤100000→aF w w.heap.size t ⟨Ae,ne,ce⟩ ⟨Ak,nk,ck⟩→Calls Tryz.prog 103 #[.agg #[.slice Ae ne ce,.slice Ak nk ck]] w (Eh t ne nk w):=by
 intro t
 induction t using T.ind with
 | h es ks ih=>
  intro Ae Ak ne nk ce ck w hn hr;obtain⟨R,U⟩:=bn hr;have HR:=ah hr;have J:=ah R;have N7:=ah U;clear R U hr;have Nz:=ah (fun (w:World)=>Lc es ks ih [] none 0 0 false Ae Ak ne nk ce ck w rfl (by omega) (Rd.nil _) hn)
  have NE:ne≤900000:=by have:=bE es ks;have:=J.o;omega
  obtain⟨g,hg⟩:∃ g,g=w.heap.size:=⟨_,rfl⟩;have r:=ah (bQ w Ae Ak ne nk ce ck);rw[← hg]at r;obtain⟨W0,y⟩:∃ W,W=w.alloc (.cells #[.slice Ae ne ce,.slice Ak nk ck] 35):=⟨_,rfl⟩;rw[← y]at r;have HG:=ah hg;have L:=ah y;have k0:=r.c0;have k1:=r.c1;clear hg y;obtain⟨q,s,Z,i,l,q0,q1⟩:=A_ W0 (.slice none 0 0) (.slice none 0 0) 35;have A:aA q s:=⟨by rw[i,Z];simp,fun j=>by rw[i,Z];go_simp⟩;have a:=ah ((((r.later l).af q1).af q0)).drew;have d:=ah A.drew
  have HQ:ai (q=g+1):=ah (by rw[Z,L.o,HG.o];simp)
  have Q:g<W0.heap.size:=aL W0 _ r.c0
  have hgq:g≠q:=by omega
  have hgq2:¬q=g:=by omega
  have X:w.heap.size<q:=by have:=HG.o;omega
  have N_:=ah i;have s0:s.cell? ⟨g,0,none⟩=_:=(l.cell (p:=⟨g,0,none⟩) Q).trans r.c0;have s1:s.cell? ⟨g,1,none⟩=_:=(l.cell (p:=⟨g,1,none⟩) Q).trans r.c1;have H:ai (w.heap.size≤s.heap.size):=a.below.size;have G:ai (q<s.heap.size):=A.1;clear Z i l A q0 q1 k0 k1 hn;go_enter Tryz.func103,Tryz.ntmps103;go_wp2_with fail;rw[← HG.o,← L.o,← HQ.o,← N_.o];refine Rk (S:=fun W=>W.cell? ⟨g,0,none⟩=some (.slice Ae ne ce)∧W.cell? ⟨g,1,none⟩=some (.slice Ak nk ck)) (fun hHeld=>?_);refine T2 0 3 2 5 ?_;refine Tc 1 (fun K u=>?_);go_simp;(go_at_call 142;refine (Ck es ks Ae Ak ne nk ce ck _ NE (aF.more a.below.size _ (aF.below HR a.below))).mono ?_)
  rintro e w2 ⟨C,c2,rfl,V,z⟩;obtain⟨a,d⟩:=gI z a d;have N8:=ah (RO.b_ V);have hbs2:=z.size;clear V z;clear hHeld;refine Th u ?_ (fun hHeld=>?_)
  ·exact⟨a.c2,a.c3⟩
  clear u K;refine Tc 3 (fun K u=>?_);go_simp;(go_at_call 143;refine (Nz.o _ (aF.more a.below.size _ (aF.below HR a.below))).mono ?_);rintro e w3 ⟨base,F,Y,c3,kr,rfl,hbs1,hbs3,n,m⟩;obtain⟨a,d⟩:=gI m a d;have M:=N8.keep m.size (fun b _ B=>m.block b B);have hsz:s.drew.heap.size=s.heap.size:=rfl;have hwW1:w.heap.size≤s.heap.size:=H.o;have x:nL (fun k=>LG [] k==false) ks=ks:=Ht ks (fun k=>by rw[KW];rfl);rw[x]at n
  have NC:Y=nk:=by rw[← n.len,N7.o]
  subst NC;have HT:=ah (n.tree (ok:=fun b=>w.heap.size≤b∧b≠q) (fun b D B=>⟨by omega,fun e=>by have:=G.o;omega⟩) (es:=es) (se:=⟨C,ne,c2⟩) J (M.mono (fun b D _=>⟨by omega,fun e=>by have:=G.o;omega⟩)));obtain⟨t0,t1,t2,t3,-⟩:=a.cj;have m0:=d.2 0;have m1:=d.2 1;clear n m M x;clear hHeld;refine Th u ?_ (fun hHeld=>?_)
  ·exact⟨t2,t3⟩
  clear u K;refine Tk 4 7 ?_;refine Tc 5 (fun K u=>?_);go_simp;refine Th u ?_ (fun c=>?_)
  ·(try dsimp only);go_keep
  clear u K hHeld;have hHeld:=c;clear c;refine Td ?_;obtain⟨w4,f⟩:∃ W,W=(w3.setCell ⟨q,0,none⟩ (.slice C ne c2)).setCell ⟨q,1,none⟩ (.slice F Y c3):=⟨_,rfl⟩
  have N:aX w4 (fun b=>w.heap.size≤b) (.mk es ks) ⟨C,ne,c2⟩ ⟨F,Y,c3⟩:=by
   rw[f];refine aX.mono (fun b D _=>D.1) _ (aX.keep (by simp[World.setCell]) (fun b D B=>?_) _ HT);exact (cZ _ ⟨q,1,none⟩ _ b (fun e=>D.2 e)).trans (cZ _ ⟨q,0,none⟩ _ b (fun e=>D.2 e))
  have O:av w w4:=by rw[f];exact (a.below.setCell (p:=⟨q,0,none⟩) (oZ X) _).setCell (p:=⟨q,1,none⟩) (oZ X) _
  have j0:w4.cell? ⟨q,0,none⟩=some (.slice C ne c2):=by rw[f];go_simp
  have j1:w4.cell? ⟨q,1,none⟩=some (.slice F Y c3):=by rw[f];go_simp
  have N9:=ah N;have Ny:=ah O;have NA:=ah f;clear N O f t0 t1 t2 t3 m0 m1 hHeld s0 s1;go_wp2_with fail;rw[← NA.o];refine bodyPost_ret (v:=.agg #[.slice C ne c2,.slice F Y c3]) (by simp[results,Tryz.results103,go_sem,j0,j1]) rfl ⟨C,c2,F,c3,rfl,N9,Ny⟩
end Tr
namespace Tr
open Sp Rw
theorem bK.M7 {w g:World} {base e n c:Nat} {A:Option Addr} {ks:List (ByteArray×T)} {f:List (ByteArray×SV×SV)} {r j:Nat} {v:Value} (h:bK w base e A n c ks f) (k:r<base) (l:g=w.setCell ⟨r,j,none⟩ v):bK g base e A n c ks f:=by
 subst l;refine⟨h.len,h.lenr,h.own.aT (a:=⟨r,j,none⟩) k v,fun i hi d=>⟨(h.yH i hi d).1,?_⟩⟩;exact aX.keep (by simp[World.setCell]) (fun b hb _=>cZ _ ⟨r,j,none⟩ _ b (fun e=>by have:b=r:=e;omega)) _ (h.yH i hi d).2
end Tr
namespace Tr
open Rw Sp
abbrev Lf:=List ByteArray×E
def lQ (x:SV×E):List Value:=[.slice x.1.A x.1.n x.1.c,.int .i64 x.2.a,.int .i64 x.2.n,.string x.2.s,.int .i64 x.2.v]
theorem H6 (x:SV×E):(lQ x).length=5:=rfl
theorem uG (x:SV×E):∀ u∈lQ x,u.oneCell'=true:=by
 intro u hu;simp[lQ]at hu
 rcases hu with rfl | rfl | rfl | rfl | rfl <;> rfl
structure RX (w:World) (ok:Nat→Prop) (sz:Nat) (A:Option Addr) (n c:Nat) (xs:List Value):Prop where
 len:xs.length=n*sz
 cap:n≤c
 one:∀ u∈xs,u.oneCell'=true
 at_:0<n→∃ b o,A=some ⟨b,o,none⟩∧ok b∧b<w.heap.size∧∀ j u,xs[j]?=some u→w.cell? ⟨b,o+j,none⟩=some u
namespace RX
variable {w w':World} {ok ok':Nat→Prop} {sz n c:Nat} {A:Option Addr} {xs:List Value}
theorem rd (h:RX w ok sz A n c xs):Rd w w.heap.size sz A n c xs:=⟨h.len,h.cap,h.one,fun f=>by obtain⟨b,o,e,_,a,d⟩:=h.at_ f;exact⟨b,o,e,a,d⟩⟩
theorem xI {B:Nat} (h:Rd w B sz A n c xs) (hB:B≤w.heap.size) (a:∀ b,b<B→ok b):RX w ok sz A n c xs:=⟨h.len,h.cap,h.one,fun g=>by obtain⟨b,o,e,d,f⟩:=h.at_ g;exact⟨b,o,e,a b d,by omega,f⟩⟩
theorem mono (h:RX w ok sz A n c xs) (i:∀ b,ok b→b<w.heap.size→ok' b):RX w ok' sz A n c xs:=
 ⟨h.len,h.cap,h.one,fun g=>by obtain⟨b,o,e,d,a,f⟩:=h.at_ g;exact⟨b,o,e,i b d a,a,f⟩⟩
theorem keep (h:RX w ok sz A n c xs) (l:w.heap.size≤w'.heap.size) (i:∀ b,ok b→b<w.heap.size→w'.heap[b]?=w.heap[b]?):RX w' ok sz A n c xs:=
 ⟨h.len,h.cap,h.one,fun k=>by
  obtain⟨b,o,e,d,f,g⟩:=h.at_ k
  exact⟨b,o,e,d,cO f l,fun j u hu=>(bU (a:=⟨b,o+j,none⟩) (i b d f)).trans (g j u hu)⟩⟩
theorem later (h:RX w ok sz A n c xs) (d:av w w'):RX w' ok sz A n c xs:=h.keep d.size fun b _ a=>d.block b a
end RX
def dh (w:World) (ok:Nat→Prop) (ls:List Lf) (lr:List (SV×E)):Prop:=ls.length=lr.length∧∀ (i:Nat) (h:i<ls.length) (h':i<lr.length),lr[i].2=ls[i].2∧ls[i].1.length=lr[i].1.n∧RX w ok 1 lr[i].1.A lr[i].1.n lr[i].1.c (strs ls[i].1)
namespace dh
variable {w w':World} {ok ok':Nat→Prop} {ls ls2:List Lf} {lr lr2:List (SV×E)}
theorem nil (w:World) (ok:Nat→Prop):dh w ok [] []:=⟨rfl,fun i h=>by simp at h⟩
theorem mono (h:dh w ok ls lr) (d:∀ b,ok b→b<w.heap.size→ok' b):dh w ok' ls lr:=⟨h.1,fun i hi a=>⟨(h.2 i hi a).1,(h.2 i hi a).2.1,(h.2 i hi a).2.2.mono d⟩⟩
theorem keep (h:dh w ok ls lr) (f:w.heap.size≤w'.heap.size) (d:∀ b,ok b→b<w.heap.size→w'.heap[b]?=w.heap[b]?):dh w' ok ls lr:=⟨h.1,fun i hi a=>⟨(h.2 i hi a).1,(h.2 i hi a).2.1,(h.2 i hi a).2.2.keep f d⟩⟩
theorem later (h:dh w ok ls lr) (d:av w w'):dh w' ok ls lr:=h.keep d.size fun b _ a=>d.block b a
theorem app (h:dh w ok ls lr) (g:dh w ok ls2 lr2):dh w ok (ls++ls2) (lr++lr2):=by
 refine⟨by rw[bP,bP,h.1,g.1],fun i hi d=>?_⟩
 by_cases b:i<ls.length
 ·have a:i<lr.length:=by rw[← h.1];exact b
  rw[BL b,BL a];exact h.2 i b a
 ·have f:=h.1
  have j:i-ls.length<ls2.length:=by rw[bP]at hi;omega
  have k:i-lr.length<lr2.length:=by rw[bP]at d;omega
  rw[BM (by omega),BM (by omega)];have:=g.2 (i-ls.length) j (by rw[f];exact k)
  simpa [f] using this
theorem one {p:List ByteArray} {e:E} {s:SV} (a:p.length=s.n) (h:RX w ok 1 s.A s.n s.c (strs p)):dh w ok [(p,e)] [(s,e)]:=⟨rfl,fun i hi hi'=>by
 obtain rfl:i=0:=by simp at hi;omega
 exact⟨rfl,a,h⟩⟩
theorem take (h:dh w ok ls lr) (k:Nat):dh w ok (ls.take k) (lr.take k):=⟨by rw[l7,l7,h.1],fun i hi a=>by
 rw[l7]at hi a;rw[List.getElem_take,List.getElem_take]
 exact h.2 i (by omega) (by omega)⟩
end dh
def mh (w:World) (B:Nat) (A:Option Addr) (n c:Nat) (ls:List Lf):Prop:=ls.length=n∧∃ lr:List (SV×E),Rd w B 5 A n c (lr.flatMap lQ)∧dh w (fun b=>b<B) ls lr
namespace mh
variable {w w':World} {B n c:Nat} {A:Option Addr} {ls:List Lf}
theorem below (h:mh w B A n c ls) (_hB:B≤w.heap.size) (a:Below B w w'):mh w' B A n c ls:=by
 obtain⟨f,lr,g,i⟩:=h;exact⟨f,lr,g.below a,i.keep a.size fun b d _=>a.block b d⟩
theorem more {d:Nat} (h:mh w B A n c ls) (f:B≤d):mh w d A n c ls:=by
 obtain⟨g,lr,i,j⟩:=h;exact⟨g,lr,i.more f,j.mono fun b a _=>cO a f⟩
theorem later (h:mh w w.heap.size A n c ls) (a:av w w'):mh w' w'.heap.size A n c ls:=(h.below (bG) a).more a.size
theorem at_ (h:mh w B A n c ls) (q:0<n):∃ b o,A=some ⟨b,o,none⟩∧b<B∧∀ (i:Nat) (hi:i<ls.length),∃ s:SV,w.cell? ⟨b,o+i*5,none⟩=some (.slice s.A s.n s.c)∧w.cell? ⟨b,o+i*5+1,none⟩=some (.int .i64 (ls[i]).2.a)∧w.cell? ⟨b,o+i*5+2,none⟩=some (.int .i64 (ls[i]).2.n)∧w.cell? ⟨b,o+i*5+3,none⟩=some (.string (ls[i]).2.s)∧w.cell? ⟨b,o+i*5+4,none⟩=some (.int .i64 (ls[i]).2.v)∧(ls[i]).1.length=s.n∧RX w (fun b=>b<B) 1 s.A s.n s.c (strs (ls[i]).1):=by
 obtain⟨h1,lr,m,j⟩:=h;obtain⟨b,o,e,p,f⟩:=fJ H6 m q;refine⟨b,o,e,p,fun i hi=>?_⟩
 have d:i<lr.length:=by rw[← j.1];exact hi
 obtain⟨g,k,l⟩:=j.2 i hi d;refine⟨lr[i].1,f i d 0 _ rfl,?_,?_,?_,?_,k,l⟩
 ·rw[← g];exact f i d 1 _ rfl
 ·rw[← g];exact f i d 2 _ rfl
 ·rw[← g];exact f i d 3 _ rfl
 ·rw[← g];exact f i d 4 _ rfl
end mh
structure fF (w:World) (base e:Nat) (A:Option Addr) (n c:Nat) (ls:List Lf) (lr:List (SV×E)):Prop where
 len:ls.length=n
 own:Own w base e 5 A n c (lr.flatMap lQ)
 paths:dh w (fun b=>(Value.slice A n c).ownBlock≠some b) ls lr
namespace fF
variable {w w':World} {base e n c:Nat} {A:Option Addr} {ls:List Lf} {lr:List (SV×E)}
theorem nil (w:World) (base e:Nat):fF w base e none 0 0 [] []:=⟨rfl,⟨iy _ _ _ _,by simp⟩,dh.nil _ _⟩
theorem later (h:fF w base e A n c ls lr) (a:av w w'):fF w' base e A n c ls lr:=⟨h.len,aG h.own a,h.paths.later a⟩
theorem mono {a:Nat} (h:fF w base e A n c ls lr) (b:a≤base):fF w a e A n c ls lr:=⟨h.len,h.own.mono b,h.paths⟩
theorem rd (h:fF w base e A n c ls lr):mh w w.heap.size A n c ls:=⟨h.len,lr,h.own.rd,⟨h.paths.1,fun i hi a=>⟨(h.paths.2 i hi a).1,(h.paths.2 i hi a).2.1,((h.paths.2 i hi a).2.2).mono fun _ _ b=>b⟩⟩⟩
theorem app {t g:Nat} {z:Value} (Q:Tryz.prog.underlying t=some (.slice e)) (hi:(Tryz.prog.info? e).map (fun i=>(i.zero,i.size,i.bytes))=some (some z,5,g)) (G:z.cells.size=5) (s:g≤1000000)
  (h:fF w base e A n c ls lr) (a:base≤w.heap.size) {B:Nat} {H:Option Addr} {m c2:Nat} {ls2:List Lf} {lr2:List (SV×E)} (O:Rd w B 5 H m c2 (lr2.flatMap lQ)) (y:ls2.length=m) (j:dh w (fun b=>(Value.slice A n c).ownBlock≠some b) ls2 lr2) (hn:n+m≤900000) :
  ∃ A' c' w',(Builtin.append_ #[t,t] t #[.slice A n c,.slice H m c2]).run Tryz.prog w = .ok (.slice A' (n+m) c') w'∧fF w' base e A' (n+m) c' (ls++ls2) (lr++lr2)∧Below base w w'∧∀ (P:Nat→Prop) (ls:List Lf) (lr:List (SV×E)),dh w (fun b=>(Value.slice A n c).ownBlock≠some b∧P b) ls lr→dh w' (fun b=>(Value.slice A' (n+m) c').ownBlock≠some b∧P b) ls lr:=by
 obtain⟨R,v,C,D,F⟩:=dO hi;obtain⟨v',w',S,L,r,p⟩:=iq (P:=Tryz.prog) w base t t e R z 5 g Q v C D F G (by omega) h.own.row O (by omega) s a
 have M:(lr++lr2).flatMap lQ=lr.flatMap lQ++lr2.flatMap lQ:=by simp
 rw[← M]at L
 obtain⟨A',c',rfl,N⟩:=Own.gX L (fun u hu=>by
  obtain⟨x,_,hu⟩:=ol.1 hu
  exact uG x u hu)
 have q:∀ b,(Value.slice A n c).ownBlock≠some b→b<w.heap.size→w'.heap[b]?=w.heap[b]?:=fun b a d=>r.block b d (fun e=>a e.symm)
 have f:∀ b,(Value.slice A n c).ownBlock≠some b→b<w.heap.size→(Value.slice A' (n+m) c').ownBlock≠some b:=fun b a d J=>by
  rcases p with p | p
  ·exact a (p.symm.trans J)
  ·have:some b=some w.heap.size:=J.symm.trans p
   injection this with this;omega
 have l:∀ {ls:List Lf} {lr:List (SV×E)},dh w (fun b=>(Value.slice A n c).ownBlock≠some b) ls lr→dh w' (fun b=>(Value.slice A' (n+m) c').ownBlock≠some b) ls lr:=fun j=>
  ((j.mono (ok':=fun b=>(Value.slice A' (n+m) c').ownBlock≠some b∧(Value.slice A n c).ownBlock≠some b) (fun b a d=>⟨f b a d,a⟩)).keep r.size (fun b a d=>q b a.2 d)).mono (fun b a _=>a.1)
 exact⟨A',c',w',S,⟨by rw[bP,h.len,y],N,(l h.paths).app (l j)⟩,(Below.refl base w).grown r a (fun k q=>(h.own.row.lt k q).1),fun P ls lr j=>((j.mono (ok':=fun b=>(Value.slice A' (n+m) c').ownBlock≠some b∧(Value.slice A n c).ownBlock≠some b∧P b) (fun b a d=>⟨f b a.1 d,a⟩)).keep r.size (fun b a d=>q b a.2.1 d)).mono (fun b a _=>⟨a.1,a.2.2⟩)⟩
end fF
theorem Cq:(Tryz.prog.info? 109).map (fun i=>(i.zero,i.size,i.bytes))=some (some (.agg #[.slice none 0 0,.int .i64 0,.int .i64 0,.string ⟨#[]⟩,.int .i64 0]),5,64):=by kernel_rfl
theorem Bu (w:World) (s:SV) (e:E) (b:TypeId):Rd (w.alloc (.cells #[.slice s.A s.n s.c,.int .i64 e.a,.int .i64 e.n,.string e.s,.int .i64 e.v] b)) (w.heap.size+1) 5 (some ⟨w.heap.size,0,none⟩) 1 1 ([(s,e)].flatMap lQ):=
 ⟨rfl,bG,fun u hu=>uG (s,e) u (by simpa using hu),fun _=>⟨_,_,rfl,by omega,fun j u hu=>by
  rw[Nat.zero_add,cell_of_row _ _ j _ _ (0,0) (heap_alloc_new _ _)]
  simpa [lQ] using hu⟩⟩
theorem fF.push {w:World} {base n c:Nat} {A:Option Addr} {ls:List Lf} {lr:List (SV×E)} (h:fF w base 109 A n c ls lr) (g:base≤w.heap.size) {p:List ByteArray} {e:E} {s:SV} (i:p.length=s.n) (f:RX w (fun b=>(Value.slice A n c).ownBlock≠some b) 1 s.A s.n s.c (strs p)) (hn:n≤800000) :
  ∃ A' c' w',(Builtin.append_ #[106,106] 106 #[.slice A n c,.slice (some ⟨w.heap.size,0,none⟩) 1 1]).run Tryz.prog (w.alloc (.cells #[.slice s.A s.n s.c,.int .i64 e.a,.int .i64 e.n,.string e.s,.int .i64 e.v] 109)) = .ok (.slice A' (n+1) c') w'∧fF w' base 109 A' (n+1) c' (ls++[(p,e)]) (lr++[(s,e)])∧Below base w w'∧∀ (P:Nat→Prop) (ls:List Lf) (lr:List (SV×E)),dh w (fun b=>(Value.slice A n c).ownBlock≠some b∧P b) ls lr→dh w' (fun b=>(Value.slice A' (n+1) c').ownBlock≠some b∧P b) ls lr:=by
 have d:av w (w.alloc (.cells #[.slice s.A s.n s.c,.int .i64 e.a,.int .i64 e.n,.string e.s,.int .i64 e.v] 109)):=(bN).alloc (bG) _;obtain⟨A',c',w',j,k,l,m⟩:=(h.later d).app Tryz.underlying106 Cq rfl (by omega) (by simp;omega) (Bu w s e _) rfl (dh.one i (f.later d)) (by omega);exact⟨A',c',w',j,k,(d.mono g).trans l,fun P ls lr f=>m P ls lr (f.later d)⟩
end Tr
end
section
open ChangeShapes WideShapes ChangeAt RowKit
namespace Tr
open Sp Rw
theorem nH:∀ p:List ByteArray,aI none_ p=none_
 | []=>rfl
 | k::p=>by
  unfold aI;exact nH p
theorem kG (t:T):∀ a b:List ByteArray,aI t (a++b)=aI (aI t a) b
 | [],_=>rfl
 | k::a,b=>by
  show aI (aR t.ks k) (a++b)=aI (aI (aR t.ks k) a) b;exact kG _ a b
theorem Hf (t:T) {p:List ByteArray} {k:Nat} (h:k<p.length):aI t (p.take (k+1))=aR (aI t (p.take k)).ks p[k]:=by
 rw[dZ h,kG];rfl
theorem JB {ks:List (ByteArray×T)} (d:ks.Pairwise (fun x y=>cK x.1 y.1)) {i:Nat} (h:i<ks.length):aR ks (ks[i]).1=(ks[i]).2:=by
 rcases jQ (ks:=ks) (key:=(ks[i]).1)with ⟨k,f,b,e⟩ | ⟨hn,_⟩
 ·rw[e]
  obtain⟨j,c,rfl⟩:=qz f
  have:j=i:=by
   rcases Nat.lt_trichotomy i j with a | a | a
   ·have:=tV.1 d i j h c a
    rw[b]at this;exact absurd this (aQ.irr _)
   ·exact a.symm
   ·have:=tV.1 d j i c h a
    rw[b]at this;exact absurd this (aQ.irr _)
  subst this;rfl
 ·exact absurd rfl (hn _ (bT h))
theorem xg {ks:List (ByteArray×T)} {x:ByteArray} (h:¬x∈keysOf ks):aR ks x=none_:=zK fun k a e=>h (dH.2 ⟨k,a,e⟩)
theorem Jq {t:T} {p:List ByteArray} {k:Nat} (h:aI t (p.take k)=none_):aI t p=none_:=by
 conv=>lhs;rw[← List.take_append_drop k p]
 rw[kG,h,nH]
theorem CR (ks:List (ByteArray×T)) (es:List E) (key:ByteArray):nodes (aR ks key)≤nodes (.mk es ks):=by
 rcases jQ (ks:=ks) (key:=key)with ⟨k,a,_,e⟩ | ⟨_,e⟩
 ·rw[e];exact dM a
 ·rw[e];unfold none_;rw[bJ];simp
theorem Il {d:Nat} {es:List E} {ks:List (ByteArray×T)} (h:au (d+1) (.mk es ks)):(keysOf ks).Pairwise fun a b=>¬cK b a:=by
 unfold keysOf;rw[List.pairwise_map];exact h.2.2.1.imp fun h=>aQ.asym h
def ul (u:T) (w:World) (e:Ending) (w':World):Prop:=∃ Ae ne ce Ak nk ck,e = .returned (.agg #[.slice Ae ne ce,.slice Ak nk ck])∧aX w' (fun b=>w.heap.size≤b) u ⟨Ae,ne,ce⟩ ⟨Ak,nk,ck⟩∧av w w'
theorem ul.rd {u:T} {Ae Ak:Option Addr} {ne nk ce ck a:Nat} {w:World} (h:aX w (fun b=>a≤b) u ⟨Ae,ne,ce⟩ ⟨Ak,nk,ck⟩):aF w w.heap.size u ⟨Ae,ne,ce⟩ ⟨Ak,nk,ck⟩:=h.rd
theorem uq (t:T) (Ae Ak:Option Addr) (ne nk ce ck:Nat) (w:World) (hl:LenT reachBytes t) (hn:nodes t≤100000) (Z:aF w w.heap.size t ⟨Ae,ne,ce⟩ ⟨Ak,nk,ck⟩) :
  Calls Tryz.prog 146 #[.agg #[.slice Ae ne ce,.slice Ak nk ck]] w (ul (if ak 5 t then t else none_) w):=by
 obtain⟨u,hu⟩:∃ u,(if ak 5 t then t else none_)=u:=⟨_,rfl⟩
 rw[hu];have f:∀ W,av w W→Calls Tryz.prog 46 #[.agg #[.slice Ae ne ce,.slice Ak nk ck]] W fun e w'=>e = .returned (.bool (ak 5 t))∧av W w':=fun W hW=>bS t Ae Ak ne nk ce ck W hl (aF.more hW.size _ (aF.below Z hW));obtain⟨g,hg⟩:∃ g,g=w.heap.size:=⟨_,rfl⟩;have A:=ah (bQ w Ae Ak ne nk ce ck);rw[← hg]at A;obtain⟨O,C⟩:∃ W,W=w.alloc (.cells #[.slice Ae ne ce,.slice Ak nk ck] 35):=⟨_,rfl⟩;rw[← C]at A;have M:=ah hg;have s:=ah C;have H:=A.c0;have V:=A.c1;clear hg C;obtain⟨q,W1,hq,D,F,q0,q1⟩:=A_ O (.slice none 0 0) (.slice none 0 0) 35;have a:=p_ hq D;have r:ai (aA g W1):=(show aA g O from⟨aL O _ A.c0,fun j=>by rw[s.o,M.o];go_simp⟩).later F
 have l:=ah (((A.later F).af q1).af q0)
 have HQ:ai (q=g+1):=ah (by rw[hq,s.o,M.o];simp)
 have hgW:g<O.heap.size:=aL O _ A.c0
 have hgq:g≠q:=by omega
 have hgq2:¬q=g:=by omega
 have hwg:w.heap.size≤g:=by have:=M.o;omega
 have x:w.heap.size≤q:=by omega
 have N:=ah D;have L:ai (av w W1):=l.below;clear hq D F q0 q1 H V;have X:=l.c2;have Y:=l.c3
 cases G:ak 5 t with
 | false=>
  rw[G,if_neg (by simp)]at hu;subst hu;rw[G]at f;have f:=ah f;clear G Z hl;go_enter Tryz.func146,Tryz.ntmps146;go_wp2_with fail;rw[← M.o,← s.o,← HQ.o,← N.o];refine (f.o _ L).mono ?_;rintro e J ⟨rfl,h⟩;have c:=ah (l.later h);obtain⟨a,r⟩:=gI h a r;clear h X Y;obtain⟨H,V,X,Y,-⟩:=c.cj;have m0:=a.2 0;have m1:=a.2 1;obtain⟨y,d⟩:∃ W,W=(J.setCell ⟨q,0,none⟩ (.slice none 0 0)).setCell ⟨q,1,none⟩ (.slice none 0 0):=⟨_,rfl⟩
  have z:ai (av w y):=ah (by rw[d];exact (c.below.setCell (p:=⟨q,0,none⟩) x _).setCell (p:=⟨q,1,none⟩) x _)
  have j0:y.cell? ⟨q,0,none⟩=some (.slice none 0 0):=by rw[d];go_simp
  have j1:y.cell? ⟨q,1,none⟩=some (.slice none 0 0):=by rw[d];go_simp
  have B:=ah d;clear d;go_wp2_with fail;rw[← B.o];refine bodyPost_ret (v:=.agg #[.slice none 0 0,.slice none 0 0]) (by simp[results,Tryz.results146,go_sem,j0,j1]) rfl ⟨none,0,0,none,0,0,rfl,aX.none _ _ _ _ _ _,z⟩
 | true=>
  rw[G,if_pos rfl]at hu;subst hu;rw[G]at f;have f:=ah f;have HRI:=ah (aO.1 G);have HR:=ah Z;have HN:=ah hn;clear G Z hl hn;go_enter Tryz.func146,Tryz.ntmps146;go_wp2_with fail;rw[← M.o,← s.o,← HQ.o,← N.o];refine (f.o _ L).mono ?_;rintro e J ⟨rfl,h⟩;have c:=ah (l.later h);obtain⟨a,r⟩:=gI h a r;clear h X Y;obtain⟨H,V,X,Y,-⟩:=c.cj;have m0:=a.2 0;have m1:=a.2 1;go_wp2_with fail;refine (rf t Ae Ak ne nk ce ck J HN (aF.more c.below.size _ (aF.below HR c.below))).mono ?_;rintro e w3 ⟨i,m,k,n,rfl,U,R⟩;obtain⟨c,a⟩:=gI R c a;have hqw2:q<J.heap.size:=aL J _ H;have N7:=c.below.size
  have S:w.heap.size≤J.heap.size:=by omega
  have Ny:=ah (aX.mono (ok':=fun b=>w.heap.size≤b∧b≠q) (fun b Q _=>⟨by omega,fun e=>by omega⟩) _ U);clear H V X Y m0 m1 U R N7 S;have H:=c.c0;have V:=c.c1;have m0:=a.2 0;have m1:=a.2 1;obtain⟨y,d⟩:∃ W,W=(w3.setCell ⟨q,0,none⟩ (.slice i ne m)).setCell ⟨q,1,none⟩ (.slice k nk n):=⟨_,rfl⟩
  have Nz:ai (aX y (fun b=>w.heap.size≤b) (t) ⟨i,ne,m⟩ ⟨k,nk,n⟩):=by
   unfold ai;rw[d];refine aX.mono (fun b Q _=>Q.1) _ (aX.keep (ok:=fun b=>w.heap.size≤b∧b≠q) (by simp[World.setCell]) (fun b Q hlt=>?_) _ Ny);exact (cZ _ ⟨q,1,none⟩ _ b (fun e=>Q.2 e)).trans (cZ _ ⟨q,0,none⟩ _ b (fun e=>Q.2 e))
  have z:ai (av w y):=ah (by rw[d];exact (c.below.setCell (p:=⟨q,0,none⟩) x _).setCell (p:=⟨q,1,none⟩) x _)
  have j0:y.cell? ⟨q,0,none⟩=some (.slice i ne m):=by rw[d];go_simp
  have j1:y.cell? ⟨q,1,none⟩=some (.slice k nk n):=by rw[d];go_simp
  have B:=ah d;clear d;go_wp2_with fail;rw[← B.o];refine bodyPost_ret (v:=.agg #[.slice i ne m,.slice k nk n]) (by simp[results,Tryz.results146,go_sem,j0,j1]) rfl ⟨i,ne,m,k,nk,n,rfl,Nz,z⟩
theorem j6 (t:T) (Ae Ak:Option Addr) (ne nk ce ck:Nat) (w:World) (l:List ByteArray) (A:Option Addr) (n c:Nat) (Oi:l.length=n) (hn9:n≤100000) (Om:Rd w w.heap.size 1 A n c (strs l)) (hl:LenT reachBytes t) (hn:nodes t≤100000) (hr:aF w w.heap.size t ⟨Ae,ne,ce⟩ ⟨Ak,nk,ck⟩) :
  Calls Tryz.prog 49 #[.agg #[.slice Ae ne ce,.slice Ak nk ck],.slice A n c] w (ul (if ak 5 t then aI t l else none_) w):=by
 obtain⟨u,hu⟩:∃ u,(if ak 5 t then aI t l else none_)=u:=⟨_,rfl⟩
 rw[hu];have NY:=ah Oi;have Ox:=ah Om;clear Oi Om;have C:∀ W,av w W→Calls Tryz.prog 46 #[.agg #[.slice Ae ne ce,.slice Ak nk ck]] W fun e w'=>e = .returned (.bool (ak 5 t))∧av W w':=fun W hW=>bS t Ae Ak ne nk ce ck W hl (aF.more hW.size _ (aF.below hr hW));obtain⟨g,hg⟩:∃ g,g=w.heap.size:=⟨_,rfl⟩;have HK:=ah (bQ w Ae Ak ne nk ce ck);rw[← hg]at HK;obtain⟨W0,NK⟩:∃ W,W=w.alloc (.cells #[.slice Ae ne ce,.slice Ak nk ck] 35):=⟨_,rfl⟩;rw[← NK]at HK;have HG:=ah hg;have N9:=ah NK;have k0:=HK.c0;have k1:=HK.c1;clear hg NK;obtain⟨q,W1,hq,NM,NN,q0,q1⟩:=A_ W0 (.slice none 0 0) (.slice none 0 0) 35;have s:=p_ hq NM;have O:ai (aA g W1):=(show aA g W0 from⟨aL W0 _ HK.c0,fun j=>by rw[N9.o,HG.o];go_simp⟩).later NN
 have Q:=ah (((HK.later NN).af q1).af q0)
 have HQ:ai (q=g+1):=ah (by rw[hq,N9.o,HG.o];simp)
 have hgW:g<W0.heap.size:=aL W0 _ HK.c0
 have hgq:g≠q:=by omega
 have hgq2:¬q=g:=by omega
 have Ot:w.heap.size≤g:=by have:=HG.o;omega
 have D:w.heap.size≤q:=by omega
 have Od:=ah NM;have NT:ai (av w W1):=Q.below;clear hq NM NN q0 q1 k0 k1;have F:=Q.c2;have k3:=Q.c3
 cases hz:ak 5 t with
 | false=>
  rw[hz,if_neg (by simp)]at hu;subst hu;rw[hz]at C;have C:=ah C;clear hz hr hl;go_enter Tryz.func49,Tryz.ntmps49;go_wp2_with fail;rw[← HG.o,← N9.o,← HQ.o,← Od.o];refine (C.o _ NT).mono ?_;rintro e w2 ⟨rfl,m⟩;have R:=ah (Q.later m);obtain⟨s,O⟩:=gI m s O;clear m F k3;obtain⟨k0,k1,F,k3,-⟩:=R.cj;have m0:=s.2 0;have m1:=s.2 1;obtain⟨G,d⟩:∃ W,W=(w2.setCell ⟨q,0,none⟩ (.slice none 0 0)).setCell ⟨q,1,none⟩ (.slice none 0 0):=⟨_,rfl⟩
  have N:ai (av w G):=ah (by rw[d];exact (R.below.setCell (p:=⟨q,0,none⟩) D _).setCell (p:=⟨q,1,none⟩) D _)
  have j0:G.cell? ⟨q,0,none⟩=some (.slice none 0 0):=by rw[d];go_simp
  have j1:G.cell? ⟨q,1,none⟩=some (.slice none 0 0):=by rw[d];go_simp
  have S:=ah d;clear d;go_wp2_with fail;rw[← S.o];refine bodyPost_ret (v:=.agg #[.slice none 0 0,.slice none 0 0]) (by simp[results,Tryz.results49,go_sem,j0,j1]) rfl ⟨none,0,0,none,0,0,rfl,aX.none _ _ _ _ _ _,N⟩
 | true=>
  rw[hz,if_pos rfl]at hu;subst hu;rw[hz]at C;have C:=ah C;have Ow:=ah (aO.1 hz);have HR:=ah hr;have HN:=ah hn;clear hz hr hl hn;go_enter Tryz.func49,Tryz.ntmps49;go_wp2_with fail;rw[← HG.o,← N9.o,← HQ.o,← Od.o];refine (C.o _ NT).mono ?_;rintro e w2 ⟨rfl,m⟩;have R:=ah (Q.later m);obtain⟨s,O⟩:=gI m s O;clear m F k3;obtain⟨k0,k1,F,k3,-⟩:=R.cj;have m0:=s.2 0;have m1:=s.2 1;go_wp2_with fail
  go_loopw [15] (fun i wr=>∃ (k:Nat) (u:T) (H L:Option Addr) (r h U X:Nat),k≤n∧i = .int .i64 k∧ai (u=aI t (l.take k))∧ai (au 5 u)∧ai (nodes u≤100000)∧ai (aF w w.heap.size u ⟨H,r,U⟩ ⟨L,h,X⟩)∧ai (Kept [(⟨g,0,none⟩,.slice H r U),(⟨g,1,none⟩,.slice L h X),(⟨q,0,none⟩,.slice none 0 0),(⟨q,1,none⟩,.slice none 0 0)] w wr)∧ai (aA g wr)∧ai (aA q wr)) (fun i _=>n-(intOf i).toNat)
  case atStart=>
   exact⟨0,t,Ae,Ak,ne,nk,ce,ck,by omega,rfl,rfl,Ow,HN,HR,((((Kept.a_ R.below).af k1).af k0).af k3).af F,O,s⟩
  case round=>
   obtain⟨k,u,H,L,r,h,U,X,hk,rfl,HU,NH,NG,N8,a,B,f⟩:=hrel;clear k0 k1 F k3 m0 m1;obtain⟨k0,k1,F,k3,-⟩:=a.cj;have m0:=f.2 0;have m1:=f.2 1
   by_cases Oj:k<n
   ·have Oh:k<l.length:=by rw[NY.o];exact Oj
    obtain⟨b,o,rfl,hb,hc⟩:=Ox.at_ (by omega);obtain⟨x,hx⟩:∃ x,x=l[k]:=⟨_,rfl⟩;have cx:=(a.below.cell (p:=⟨b,o+k,none⟩) hb).trans (hc k (.string x) (by rw[hx];simp[strs,Oh]));have Oc:=ah (Hf t Oh);have HX:=ah hx;clear hc hx;obtain⟨es,ks,rfl⟩:∃ es ks,u = .mk es ks:=⟨u.es,u.ks,(T.eta u).symm⟩;have Nz:=bn N8
    have hnk5:h≤100000:=by have:=bE es ks;have:=NG.o;omega
    have Oz:=ah (D7 es ks H L r h U X x wr (by omega) (aF.more a.below.size _ (aF.below N8 a.below)) (Il NH));have NZ:=ah Nz.2;clear Nz;go_wp2_with fail;refine Oz.mono ?_;rintro e w3 ⟨i3,z,rfl,⟨NP,NQ⟩,Z⟩;obtain⟨a,B,f⟩:=kX Z a B f;clear k0 k1 F k3 m0 m1 Z cx;obtain⟨k0,k1,F,k3,-⟩:=a.cj;have m0:=f.2 0;have m1:=f.2 1
    cases z with
    | false=>
     have Ol:=xg (NQ rfl)
     have N7:aI t l=none_:=by
      refine Jq (k:=k+1) ?_;rw[Oc.o,← HU.o,← HX.o];exact Ol
     have NF:=ah N7;clear NP NQ Ol N7;obtain⟨G,d⟩:∃ W,W=(w3.setCell ⟨q,0,none⟩ (.slice none 0 0)).setCell ⟨q,1,none⟩ (.slice none 0 0):=⟨_,rfl⟩
     have N:ai (av w G):=ah (by rw[d];exact (a.below.setCell (p:=⟨q,0,none⟩) D _).setCell (p:=⟨q,1,none⟩) D _)
     have j0:G.cell? ⟨q,0,none⟩=some (.slice none 0 0):=by rw[d];go_simp
     have j1:G.cell? ⟨q,1,none⟩=some (.slice none 0 0):=by rw[d];go_simp
     have S:=ah d;clear d;go_wp2_with fail;rw[← S.o];rw[NF.o];refine bodyPost_ret (v:=.agg #[.slice none 0 0,.slice none 0 0]) (by simp[results,Tryz.results49,go_sem,j0,j1]) rfl ⟨none,0,0,none,0,0,rfl,aX.none _ _ _ _ _ _,N⟩
    | true=>
     obtain⟨O5,Oe⟩:=NP rfl
     have Ny:i3<ks.length:=by rw[NZ.o];exact O5
     obtain⟨b2,o2,rfl,m,Og⟩:=iJ N8 (by omega);obtain⟨⟨NC,NR,NI⟩,⟨NE,NS,NJ⟩,_,c1,c2,NA⟩:=Og i3 Ny;dsimp only at c1 c2;have c1:=(a.below.cell (p:=⟨b2,o2+i3*3+1,none⟩) m).trans c1;have c2:=(a.below.cell (p:=⟨b2,o2+i3*3+2,none⟩) m).trans c2
     have Oq:(ks[i3]).2=aI t (l.take (k+1)):=by
      rw[Oc.o,← HU.o,← HX.o,← Oe Ny];exact (JB NH.2.2.1 Ny).symm
     have O1:=ah Oq;have Ob:ai (au 5 (ks[i3]).2):=(NH.2.2.2 _ (bT Ny)).2.2.more;have Oa:ai (nodes (ks[i3]).2≤100000):=aN (dM (bT Ny)) NG.o;have NW:=ah NA;have m2:=B.2 0;have m3:=B.2 1;obtain⟨w4,y⟩:∃ W,W=(w3.setCell ⟨g,0,none⟩ (.slice NC NR NI)).setCell ⟨g,1,none⟩ (.slice NE NS NJ):=⟨_,rfl⟩
     have j0:w4.cell? ⟨g,0,none⟩=some (.slice NC NR NI):=by rw[y];go_simp
     have j1:w4.cell? ⟨g,1,none⟩=some (.slice NE NS NJ):=by rw[y];go_simp
     have Ou:ai (av w w4):=ah (by rw[y];exact (a.below.setCell (p:=⟨g,0,none⟩) Ot _).setCell (p:=⟨g,1,none⟩) Ot _)
     have j2:w4.cell? ⟨q,0,none⟩=some (.slice none 0 0):=by rw[y];go_simp
     have j3:w4.cell? ⟨q,1,none⟩=some (.slice none 0 0):=by rw[y];go_simp
     have Ov:=ah (((((Kept.a_ Ou).af j3).af j2).af j1).af j0)
     have NU:ai (aA g w4):=ah (by rw[y];exact (B.set _ _).set _ _)
     have NV:ai (aA q w4):=ah (by rw[y];exact (f.set _ _).set _ _)
     have O4:=ah y
     have h31i:(i3:Int)<h:=by omega
     clear NP NQ Og NA Oq Oe y j0 j1 j2 j3;go_wp2_with fail;rw[← O4.o];go_roundw
     case rel=>exact⟨k+1,_,NC,NE,NR,NS,NI,NJ,by omega,by go_num,O1,Ob,Oa,NW,Ov,NU,NV⟩
     case measure=>simp[intOf];omega
   ·obtain rfl:k=n:=by omega
    have N_:l.take k=l:=eO (by rw[NY.o];omega)
    have O3:ai (u=aI t l):=by have:=HU.o;rwa [N_]at this
    clear N_;go_wp2_with fail;refine (rf u H L r h U X wr NG (aF.more a.below.size _ (aF.below N8 a.below))).mono ?_;rintro e w3 ⟨J,V,M,Y,rfl,Oo,Z⟩;have hqw2:q<wr.heap.size:=aL wr _ F
    have hww:w.heap.size≤wr.heap.size:=by omega
    obtain⟨a,f⟩:=gI Z a f;have Oy:=ah (aX.mono (ok':=fun b=>w.heap.size≤b∧b≠q) (fun b hb _=>⟨by omega,fun e=>by omega⟩) _ Oo);clear k0 k1 F k3 m0 m1 Oo Z;have F:=a.c2;have k3:=a.c3;have m0:=f.2 0;have m1:=f.2 1;obtain⟨G,d⟩:∃ W,W=(w3.setCell ⟨q,0,none⟩ (.slice J r V)).setCell ⟨q,1,none⟩ (.slice M h Y):=⟨_,rfl⟩
    have O0:ai (aX G (fun b=>w.heap.size≤b) (u) ⟨J,r,V⟩ ⟨M,h,Y⟩):=by
     unfold ai;rw[d];refine aX.mono (fun b hb _=>hb.1) _ (aX.keep (ok:=fun b=>w.heap.size≤b∧b≠q) (by simp[World.setCell]) (fun b hb Oj=>?_) _ Oy);exact (cZ _ ⟨q,1,none⟩ _ b (fun e=>hb.2 e)).trans (cZ _ ⟨q,0,none⟩ _ b (fun e=>hb.2 e))
    have N:ai (av w G):=ah (by rw[d];exact (a.below.setCell (p:=⟨q,0,none⟩) D _).setCell (p:=⟨q,1,none⟩) D _)
    have j0:G.cell? ⟨q,0,none⟩=some (.slice J r V):=by rw[d];go_simp
    have j1:G.cell? ⟨q,1,none⟩=some (.slice M h Y):=by rw[d];go_simp
    have S:=ah d;clear d;go_wp2_with fail;rw[← S.o];refine bodyPost_ret (v:=.agg #[.slice J r V,.slice M h Y]) (by simp[results,Tryz.results49,go_sem,j0,j1]) rfl ⟨J,r,V,M,h,Y,rfl,by have h9:=O0.o;rw[O3.o]at h9;exact h9,N⟩
end Tr
namespace Cx
open Sp Rw
set_option maxRecDepth 100000 in
set_option maxHeartbeats 1000000 in
theorem xK (l:List S3) (n:Nat) (A:Option Addr) (c:Nat) (g:Int) (w:World) (W:l.length=n) (hn:n≤800000) (X:Rd w w.heap.size 3 A n c (aP l)) :
  Calls Tryz.prog 82 #[.slice A n c,.int .i64 g] w fun e w'=>∃ A' q c',e = .returned (.slice A' q c')∧ai ((part l g).length=q)∧Own w' w.heap.size 157 2 A' q c' (aS (part l g))∧av w w':=by
 have HR:=ah X;have U:=ah W;clear X W;go_enter Tryz.func82,Tryz.ntmps82;go_wp2
 go_loopw [5,9] (fun v i wr=>∃ (k m:Nat) (A':Option Addr) (c':Nat),k≤n∧v = .slice A' m c'∧i = .int .i64 k∧ai ((part (l.take k) g).length=m)∧ai (Own wr w.heap.size 157 2 A' m c' (aS (part (l.take k) g)))∧ai (av w wr)) (fun _ i _=>n-(intOf i).toNat)
 case atStart=>exact⟨0,0,none,0,by omega,rfl,rfl,rfl,⟨iy _ _ _ _,by simp[part,aS]⟩,bN⟩
 case round=>
  obtain⟨k,m,A',c',hk,rfl,rfl,t,B,s⟩:=hrel
  by_cases F:k<n
  ·have D:k<l.length:=by rw[U.o];exact F
   obtain⟨b,o,rfl,u,V⟩:=jB HR F;obtain⟨J,L,M⟩:=V k D;obtain⟨p,S⟩:∃ p,p=l[k]:=⟨_,rfl⟩;have f:=uO D S g;rw[← S]at J L M;obtain⟨a,x,y⟩:=p;have J:=(s.cell (p:=⟨b,o+k*3,none⟩) u).trans J;have L:=(s.cell (p:=⟨b,o+k*3+1,none⟩) u).trans L;have M:=(s.cell (p:=⟨b,o+k*3+2,none⟩) u).trans M;clear V S
   by_cases G:a=g
   ·have f1:(a==g)=true:=by simpa using G
    rw[if_pos G]at f;dsimp only at f;have R:(part (l.take k) g).length≤800000:=aN (iH _ _) (by rw[l7];omega);have h:=ko B.row ((Below.refl wr.heap.size wr).drew);rw[← t.o]at h;obtain⟨Y,c2,w2,d,j,C⟩:=iI Tryz.underlying122 Cr wr.drew w.heap.size wr.heap.size (by simp) (by have:=s.size;simp;omega) _ (part (l.take k) g) h x y (by omega);rw[← f]at d j;rw[t.o]at d;obtain⟨H,z⟩:∃ H,H=(part (l.take (k+1)) g).length:=⟨_,rfl⟩;rw[← z]at d j;have r:=ah d;have Q:=ah j;have N:=ah ((s.drew).trans C);have O:ai ((part (l.take (k+1)) g).length=H):=z.symm;clear d j C f h z B t R;go_wp2
    go_region_law (refine bg _ _ _ rfl rfl rfl r ?_)
    all_goals
     clear r J L M;go_wp2;go_roundw
     case rel=>exact⟨k+1,H,Y,c2,by omega,rfl,by go_num,O,Q,N⟩
     case measure=>simp[intOf];omega
   ·have f1:(a==g)=false:=by simpa using G
    rw[if_neg G]at f;rw[← f]at B t;clear f;go_wp2;go_roundw
    case rel=>exact⟨k+1,m,A',c',by omega,rfl,by go_num,t,B,s⟩
    case measure=>simp[intOf];omega
  ·obtain rfl:k=n:=by omega
   have Z:ai (l.take k=l):=eO (by rw[U.o];omega);rw[Z.o]at B t;go_wp2;go_ret;exact⟨_,m,_,rfl,t,B,s⟩
theorem Iu {d:Int} {l:List (Int×Int)} {k:Nat} (h:k<l.length) {r:Int×Int} (a:r=l[k]):dF d (l.take (k+1))=dF d (l.take k)++[(d,r)]:=by
 rw[dZ h,← a];simp[dF]
theorem Kk (d:Int) (l:List (Int×Int)):(dF d l).length=l.length:=by simp[dF]
set_option maxRecDepth 100000 in
set_option maxHeartbeats 1000000 in
theorem Ai (l:List (Int×Int)) (n:Nat) (A:Option Addr) (c:Nat) (a:Int) (w:World) (O:l.length=n) (hn:n≤800000) (Q:Rd w w.heap.size 2 A n c (aS l)) :
  Calls Tryz.prog 157 #[.int .i64 a,.slice A n c] w fun e w'=>∃ A' c',e = .returned (.slice A' n c')∧Own w' w.heap.size 117 3 A' n c' (aP (dF a l))∧av w w':=by
 have U:=ah Q;have G:=ah O;clear Q O;go_enter Tryz.func157,Tryz.ntmps157;go_wp2
 go_loopw [5,9] (fun v i wr=>∃ (k:Nat) (A':Option Addr) (c':Nat),k≤n∧v = .slice A' k c'∧i = .int .i64 k∧ai (Own wr w.heap.size 117 3 A' k c' (aP (dF a (l.take k))))∧ai (av w wr)) (fun _ i _=>n-(intOf i).toNat)
 case atStart=>exact⟨0,none,0,by omega,rfl,rfl,⟨iy _ _ _ _,by simp[dF,aP]⟩,bN⟩
 case round=>
  obtain⟨k,A',c',hk,rfl,rfl,B,q⟩:=hrel
  by_cases u:k<n
  ·have t:k<l.length:=by rw[G.o];exact u
   obtain⟨b,o,rfl,s,N⟩:=qh U G u;obtain⟨C,D⟩:=N k t;obtain⟨p,L⟩:∃ p,p=l[k]:=⟨_,rfl⟩;have z:=Iu (d:=a) t L;rw[← L]at C D;obtain⟨x,y⟩:=p;have C:=(q.cell (p:=⟨b,o+k*2,none⟩) s).trans C;have D:=(q.cell (p:=⟨b,o+k*2+1,none⟩) s).trans D
   have g:(dF a (l.take k)).length=k:=by rw[Kk,l7];omega
   have f:=ko B.row ((Below.refl wr.heap.size wr).drew);rw[show (k:Nat)=(dF a (l.take k)).length from g.symm]at f;obtain⟨R,c2,w2,h,m,r⟩:=push wL BH Tryz.underlying40 vH rfl (by omega) (by omega) wr.drew w.heap.size wr.heap.size (by simp) (by have:=q.size;simp;omega) _ (dF a (l.take k)) (by rw[g]at f ⊢;exact f) (a,x,y) #[.int .i64 a,.int .i64 x,.int .i64 y] rfl (by rw[g];omega)
   have J:(dF a (l.take k)++[(a,x,y)]).length=k+1:=by simp[g]
   have M:(dF a (l.take k)++[(a,x,y)]).flatMap LM=aP (dF a (l.take (k+1))):=by rw[z];rfl
   rw[J]at h;rw[J,M]at m;have j:=ah h;have H:=ah m;have F:=ah ((q.drew).trans r);clear N L h m r f z g J M B;go_wp2
   go_region_law (refine bg _ _ _ rfl rfl rfl j ?_)
   all_goals
    clear j C D;go_wp2;go_roundw
    case rel=>exact⟨k+1,R,c2,by omega,by go_num,by go_num,H,F⟩
    case measure=>simp[intOf];omega
  ·obtain rfl:k=n:=by omega
   have S:ai (l.take k=l):=eO (by rw[G.o];omega);rw[S.o]at B;go_wp2;go_ret;exact⟨_,_,rfl,B,q⟩
end Cx
namespace Cx
open Sp Rw
theorem DC (a b:List S3):aP (a++b)=aP a++aP b:=by simp[aP]
theorem Kl (l:List S3):∀ u∈aP l,u.oneCell'=true:=by
  intro u hu;obtain⟨s,_,hu⟩:=ol.1 hu;exact BH s u hu
theorem IU {w:World} {base n m c c':Nat} {A A':Option Addr} {xs ys:List S3} (j:Own w base 117 3 A n c (aP xs)) (t:Rd w w.heap.size 3 A' m c' (aP ys)) (s:n+m≤1000000) (i:base≤w.heap.size) :
    ∃ a c2 g,(Builtin.append_ #[40,40] 40 #[.slice A n c,.slice A' m c']).run Tryz.prog w = .ok (.slice a (n+m) c2) g∧Own g base 117 3 a (n+m) c2 (aP (xs++ys))∧Below base w g:=by
  obtain⟨u,b,d,e,f⟩:=dO vH;obtain⟨v',v,l,h,p,h4⟩:=iq (P:=Tryz.prog) w base 40 40 117 u _ 3 24 Tryz.underlying40 b d e f rfl (by omega) j.row t s (by omega) i;rw[← DC]at h;obtain⟨a,c2,rfl,q⟩:=Own.gX h (Kl _);exact⟨a,c2,v,l,q,(Below.refl base w).grown p i (fun k r=>(j.row.lt k r).1)⟩
set_option maxRecDepth 100000 in
set_option maxHeartbeats 2000000 in
theorem Ff (f:Bool→Bool→Bool) (r:Int) (s:FP r f) (a b u:List S3) (n m q:Nat) (A B:Option Addr) (c d:Nat) (w:World) (G:a.length=n) (N7:b.length=m) (H:u.length=q) (hn:n≤1000) (hm:m≤1000) (NC:Rd w w.heap.size 3 A n c (aP a)) (NE:Rd w w.heap.size 3 B m d (aP b)) (ha:aH a) (hb:aH b) (hu:iW f a b u) (huq:q≤800000) :
    Calls Tryz.prog 148 #[.slice A n c,.slice B m d,.int .i64 r] w fun e w'=>∃ A' c',e = .returned (.slice A' q c')∧Own w' w.heap.size 117 3 A' q c' (aP u)∧av w w':=by
  have y:ai (pre (fun d:Nat=>part u d) 4=u):=by
    unfold ai;rw[qd];refine wW (uV _) hu.right.rise fun d hd=>?_;rw[nU _ hd]
    have e:((d.toNat:Nat):Int)=d:=by have:=hd.1;omega
    rw[e]
  have Ob:ai (∀ d:Nat,d<4→∀ l,aB 1 l→(∀ n,hasB l n=f (hasB (part a d) n) (hasB (part b d) n))→l=part u d):=fun d hd l h1 h2=>
    ext h1 (hu.right.part d (by unfold ny;omega)) fun n=>by rw[h2 n];exact (hu.has d n (by unfold ny;omega)).symm
  have Oc:ai (∀ d:Nat,d≤4→(pre (fun d:Nat=>part u d) d).length≤q):=by
    have h4:(pre (fun d:Nat=>part u d) 4).length=q:=by rw[y.o,H]
    intro d hd
    have J:∀ i j:Nat,i≤j→(pre (fun d:Nat=>part u d) i).length≤(pre (fun d:Nat=>part u d) j).length:=by
      intro i j hij
      induction j with
      | zero => obtain rfl : i = 0 := by omega
                exact bG
      | succ j ih=>
        rcases (by omega:i≤j∨i=j+1)with h | rfl
        · have:=ih h
          simp only[pre,bP];omega
        · exact bG
    have:=J d 4 hd;omega
  have NU:=fun (dc:Int) W (h:av w W)=>ah (xK a n A c dc W G (by omega) ((NC.below h).more h.size));have NZ:=ah NE;have NJ:=ah G;have X:=ah N7;have NS:=ah ha;have NT:=ah hb;have NK:=ah H;have S:=ah s;clear NC NE G N7 ha hb hu H s;go_enter Tryz.func148,Tryz.ntmps148;go_wp2
  go_loopw [7,9] (fun v i wr=>∃ (d m:Nat) (A':Option Addr) (c':Nat),d≤4∧v = .slice A' m c'∧i = .int .i64 d∧ai ((pre (fun d:Nat=>part u d) d).length=m)∧ai (Own wr w.heap.size 117 3 A' m c' (aP (pre (fun d:Nat=>part u d) d)))∧ai (av w wr)) (fun _ i _=>4-(intOf i).toNat)
  case atStart=>exact⟨0,0,none,0,by omega,rfl,rfl,rfl,⟨iy _ _ _ _,by simp[pre,aP]⟩,bN⟩
  case round=>
    obtain⟨k,m1,A',c',hk,rfl,rfl,HM,HO,HB⟩:=hrel
    by_cases Od:k<4
    · have N:=NU k wr HB
      have NH:ai ((part a k).length≤1000):=aN (iH _ _) (by rw[NJ.o];exact hn);have NI:ai ((part b k).length≤1000):=aN (iH _ _) (by rw[X.o];exact hm);go_wp2_with fail;refine N.mono ?_;rintro e w1 ⟨A1,q1,c1,rfl,U,N8,C⟩;have g:=ah (HB.trans (C.mono HB.size));have NN:=ah (aG HO C);have NV:=ah N8.rd;clear C N8;have O:=ah (xK b m B d k w1 X (by omega) ((NZ.below g).more g.size));go_wp2_with fail;refine O.mono ?_;rintro e w2 ⟨A2,q2,c2,rfl,V,N9,p⟩;have L:=ah (g.trans (p.mono g.size));have NP:=ah (aG NN p);have NW:=ah (NV.later p);have Oa:=ah N9.rd;clear p N9;have Q:=ah (Ih f r S (part a k) (part b k) q1 q2 A1 A2 c1 c2 w2 U V (by have:=U.o;have:=NH.o;omega) (by have:=V.o;have:=NI.o;omega) NW Oa (NS.part k (by unfold ny;omega)) (NT.part k (by unfold ny;omega)))
      have R:ai (Calls Tryz.prog 174 #[.slice A1 q1 c1,.slice A2 q2 c2,.int .i64 r] w2 fun e w'=>∃ A' q' c',e = .returned (.slice A' q' c')∧ai ((part u k).length=q')∧ai (Rd w' w'.heap.size 2 A' q' c' (aS (part u k)))∧av w2 w'):=by
        refine Q.mono ?_;rintro e w' ⟨l,A',c',rfl,h1,h2,ho,hb⟩;have:=Ob.o k Od l h1 h2;subst this;exact⟨A',_,c',rfl,rfl,ho.rd,hb⟩
      clear N O Q;go_wp2_with fail;refine R.mono ?_;rintro e w3 ⟨A3,q3,c3,rfl,x,NY,D⟩;have M:=ah (L.trans (D.mono L.size));have NQ:=ah (aG NP D);clear D
      have Y:ai (m1+q3≤800000):=by
        have:=Oc.o (k+1) (by omega);simp only[pre,bP,Cx.gV]at this;have e1:=HM.o;have e2:=x.o;unfold ai;omega
      have NG:=ah (Ai (part u k) q3 A3 c3 k w3 x (by have:=Y.o;omega) NY);go_wp2_with fail;refine NG.mono ?_;rintro e w4 ⟨A4,c4,rfl,N_,F⟩;have Ny:=aG NQ F;have z:=M.trans (F.mono M.size);obtain⟨A5,c5,w5,t,NA,Nz⟩:=IU Ny N_.rd (by have:=Y.o;omega) z.size;have Z:=ah t;have NR:=ah NA;have NF:=ah (z.trans Nz)
      have NM:ai ((pre (fun d:Nat=>part u d) (k+1)).length=m1+q3):=by
        simp only[pre,bP,Cx.gV,ai];rw[HM.o,x.o]
      clear F N_ Ny z t NA Nz;go_wp2_with (at_builtin;refine Lib.wpList_append_run _ rfl _ _ _ _ rfl _ _ rfl rfl _ _ Z ?_);go_roundw
      case rel=>exact⟨k+1,m1+q3,A5,c5,by omega,rfl,by go_num,NM,NR,NF⟩
      case measure=>simp[intOf];omega
    · obtain rfl:k=4:=by omega
      have HE:ai (m1=q):=ah (by rw[← HM.o,y.o,NK.o])
      rw[y.o,HE.o]at HO;rw[HE.o];go_wp2;go_ret;exact⟨_,_,rfl,HO,HB⟩
theorem qZ (a b u:List S3) (n m q:Nat) (A B:Option Addr) (c d:Nat) (w:World) (f:a.length=n) (g:b.length=m) (h:u.length=q) (x:n≤1000) (v:m≤1000) (i:Rd w w.heap.size 3 A n c (aP a)) (j:Rd w w.heap.size 3 B m d (aP b)) (l:aH a) (p:aH b) (hu:iW l6 a b u) (k:q≤800000) :
    Calls Tryz.prog 109 #[.slice A n c,.slice B m d] w fun e w'=>∃ A' c',e = .returned (.slice A' q c')∧Own w' w.heap.size 117 3 A' q c' (aP u)∧av w w':=by
  have r:=ah (Ff l6 0 (.inl ⟨rfl,rfl⟩) a b u n m q A B c d w f g h x v i j l p hu k);clear f g h i j l p hu;go_enter Tryz.func109,Tryz.ntmps109;go_wp2_with (go_at_call 148;refine r.mono ?_;rintro e w1 ⟨A1,c1,rfl,s,t⟩);go_ret;exact⟨_,_,rfl,s,t⟩
end Cx
namespace Cx
open Sp Rw
set_option maxRecDepth 100000 in
set_option maxHeartbeats 2000000 in
theorem Fh (l:List (Int×Int)) (n:Nat) (A:Option Addr) (c:Nat) (w:World) (hl:l.length=n) (hn:n≤1000) (hr:Rd w w.heap.size 2 A n c (l.flatMap jG)) (hg:goodD l) (u:List S3) (hu:pG l u) (q:Nat) (hq:u.length=q) (hq8:q≤800000) :
    Calls Tryz.prog 126 #[.slice A n c] w fun e w'=>∃ A' c',e = .returned (.slice A' q c')∧Own w' w.heap.size 117 3 A' q c' (aP u)∧av w w':=by
  have J:ai (pre (fun d:Nat=>part u d) 4=u):=by
    unfold ai;rw[qd];refine wW (uV _) hu.right.rise fun d hd=>?_;rw[nU _ hd]
    have e:((d.toNat:Nat):Int)=d:=by have:=hd.1;omega
    rw[e]
  have NK:ai (∀ d:Nat,d<4→∀ x,pI (nums l d) x→x=part u d):=fun d hd x hx=>
    ext hx.1 (hu.right.part d (by unfold ny;omega)) fun m=>by
      have h1:=hx.2 m;have h2:=hu.has d m (by unfold ny;omega);unfold aD at h2;rw[← sZ]at h2
      cases e1:hasB x m <;> cases e2:hasB (part u d) m <;> simp_all
  have NM:ai (∀ d:Nat,d≤4→(pre (fun d:Nat=>part u d) d).length≤q):=by
    have h4:(pre (fun d:Nat=>part u d) 4).length=q:=by rw[J.o,hq]
    intro d hd
    have O:∀ i j:Nat,i≤j→(pre (fun d:Nat=>part u d) i).length≤(pre (fun d:Nat=>part u d) j).length:=by
      intro i j hij
      induction j with
      | zero => obtain rfl : i = 0 := by omega
                exact bG
      | succ j ih=>
        rcases (by omega:i≤j∨i=j+1)with h | rfl
        · have:=ih h
          simp only[pre,bP];omega
        · exact bG
    have:=O d 4 hd;omega
  have HR:=ah hr;have HL:=ah hl;have NC:=ah hg;have HQ:=ah hq;clear hr hl hg hq hu;go_enter Tryz.func126,Tryz.ntmps126;go_wp2
  go_loopw [3,7] (fun v i wr=>∃ (d m:Nat) (A':Option Addr) (c':Nat),d≤4∧v = .slice A' m c'∧i = .int .i64 d∧ai ((pre (fun d:Nat=>part u d) d).length=m)∧ai (Own wr w.heap.size 117 3 A' m c' (aP (pre (fun d:Nat=>part u d) d)))∧ai (av w wr)) (fun _ i _=>4-(intOf i).toNat)
  case atStart=>exact⟨0,0,none,0,by omega,rfl,rfl,rfl,⟨iy _ _ _ _,by simp[pre,aP]⟩,bN⟩
  case round=>
    obtain⟨d,m1,A',c',hd,rfl,rfl,HM,S,HB⟩:=hrel
    by_cases NN:d<4
    · obtain⟨W,M⟩:∃ W,W=wr:=⟨_,rfl⟩
      rw[← M]at S HB;have V:=ah M
      have U:ai (∀ x:Nat,(part u d).length=x→m1+x≤800000):=fun x hx=>by
        have:=NM.o (d+1) (by omega);simp only[pre,bP,Cx.gV]at this;have e1:=HM.o;omega
      clear M;go_wp2
      go_loopw [5,12] (fun v i N8=>∃ (k t:Nat) (R:Option Addr) (c2:Nat),k≤n∧v = .slice R t c2∧i = .int .i64 k∧ai ((nums (l.take k) d).length=t)∧ai (Own N8 W.heap.size 2 1 R t c2 (dU (nums (l.take k) d)))∧ai (av W N8)) (fun _ i _=>n-(intOf i).toNat)
      case atStart=>exact⟨0,0,none,0,by omega,rfl,rfl,rfl,⟨iy _ _ _ _,by simp[nums,dU]⟩,(by unfold ai;rw[V.o];exact bN)⟩
      case round=>
        clear V;obtain⟨k,t,R,c2,hk,rfl,rfl,a,r,g⟩:=hrel;have C:ai (av w wr):=HB.trans (g.mono HB.size)
        by_cases Nz:k<n
        · have Ny:k<l.length:=by rw[HL.o];exact Nz
          obtain⟨b1,o,rfl,Z,hc⟩:=JW HR Nz;obtain⟨q0,q1⟩:=hc k Ny;obtain⟨p,hp⟩:∃ p,p=l[k]:=⟨_,rfl⟩;have f:=uM Ny hp (d:Int);rw[← hp]at q0 q1;obtain⟨dc,y⟩:=p;have q0:=(C.cell (p:=⟨b1,o+k*2,none⟩) Z).trans q0;have q1:=(C.cell (p:=⟨b1,o+k*2+1,none⟩) Z).trans q1;dsimp only at q0 q1 f;clear hc hp
          by_cases he:dc=(d:Int)
          · have f1:(dc==(d:Int))=true:=by simpa using he
            rw[if_pos he]at f
            have NP:t≤1000:=by rw[← a.o];exact aN (sW _ _) (by rw[l7];omega)
            obtain⟨v3,w3,b,Q,s⟩:=tJ Tryz.underlying175 Gg rfl (by omega) (by omega) wr W.heap.size wr.heap.size rfl g.size _ t _ r.row [.int .i64 y] 1 rfl (by intro u hu;simp at hu;rcases hu with rfl;rfl) (by omega)
            have e2:dU (nums (l.take k) d)++[.int .i64 y]=dU (nums (l.take (k+1)) d):=by rw[f,kZ];rfl
            rw[e2]at Q;obtain⟨A3,c3,rfl,B⟩:=Own.gX Q (qD _);have z:=ah b;have H:=ah B
            have NE:ai ((nums (l.take (k+1)) d).length=t+1):=ah (by rw[f,bP,a.o];rfl)
            have G:=ah (g.trans s);clear b Q B s f e2 r a NP;go_wp2_with (at_builtin;refine Lib.wpList_append_run _ rfl _ _ _ _ rfl _ _ rfl rfl _ _ z ?_);exact⟨⟨.slice A3 (t+1) c3,_,.int .i64 ((k:Int)+1),⟨k+1,by omega,t+1,A3,c3,rfl,by go_num,NE,H⟩,rfl,rfl,rfl⟩,by simp[intOf];omega⟩
          · have f1:(dc==(d:Int))=false:=by simpa using he
            rw[if_neg he]at f;rw[← f]at a r;clear f;go_wp2;go_roundw
            case rel=>exact⟨k+1,t,R,c2,by omega,rfl,by go_num,a,r,g⟩
            case measure=>simp[intOf];omega
        · obtain rfl:k=n:=by omega
          have F:l.take k=l:=eO (by rw[HL.o];omega);rw[F]at r a
          have NG:ai ((nums l d).length≤1000):=ah (by have:=sW l d;have:=HL.o;omega)
          have HC:=ah (Ii (nums l d) t R c2 wr a (by have:=a.o;have:=NG.o;omega) r.rd (fun x hx=>by have:=(lK (NC.o _ (sZ.1 hx))).2;exact this))
          have N_:ai (Calls Tryz.prog 158 #[.slice R t c2] wr fun e w'=>∃ A' q' c',e = .returned (.slice A' q' c')∧ai ((part u d).length=q')∧ai (Rd w' w'.heap.size 2 A' q' c' (aS (part u d)))∧av wr w'):=by
            refine HC.mono ?_;rintro e w' ⟨x,A',c',rfl,h1,ho,hb⟩;have:=NK.o d NN x h1;subst this;exact⟨A',_,c',rfl,rfl,ho.rd,hb⟩
          have NH:ai (Own wr w.heap.size 117 3 A' m1 c' (aP (pre (fun d:Nat=>part u d) d))):=aG S g.o;clear F HC S g;go_wp2_with fail;refine N_.mono ?_;rintro e w3 ⟨A3,q3,c3,rfl,D,NJ,s⟩;have G:=ah (C.trans (s.mono C.size));have H:=ah (aG NH s);clear s;have NA:=ah (Ai (part u d) q3 A3 c3 d w3 D (by have:=U.o q3 D.o;omega) NJ);go_wp2_with fail;refine NA.mono ?_;rintro e w4 ⟨A4,c4,rfl,B,N⟩;have X:=aG H N;have L:=G.trans (N.mono G.size);obtain⟨A5,c5,w5,b,N7,Y⟩:=IU X B.rd (by have:=U.o q3 D.o;omega) L.size;have z:=ah b;have NI:=ah N7;have N9:=ah (L.trans Y)
          have NF:ai ((pre (fun d:Nat=>part u d) (d+1)).length=m1+q3):=by
            simp only[pre,bP,Cx.gV,ai];rw[HM.o,D.o]
          clear N B X L b N7 Y;go_wp2_with (at_builtin;refine Lib.wpList_append_run _ rfl _ _ _ _ rfl _ _ rfl rfl _ _ z ?_);go_roundw
          case rel=>exact⟨d+1,m1+q3,A5,c5,by omega,rfl,by go_num,NF,NI,N9⟩
          case measure=>simp[intOf];omega
    · obtain rfl:d=4:=by omega
      have HE:ai (m1=q):=ah (by rw[← HM.o,J.o,HQ.o])
      rw[J.o,HE.o]at S;rw[HE.o];go_wp2;go_ret;exact⟨_,_,rfl,S,HB⟩
end Cx
namespace Cx
open Sp Rw
end Cx
end
section
open Go.RowKit Go.Shelf
namespace Tr
open Sp Rw
attribute [local go_sem] Oper.semAt_some
def K7 (n₀ Bs:Nat) (W W':World):Prop:=Below n₀ W W'∧W'.cell? ⟨Bs,0,none⟩=W.cell? ⟨Bs,0,none⟩
theorem Gi {n₀ a:Nat} {A B C:World} (h:K7 n₀ a A B) (k:K7 n₀ a B C):K7 n₀ a A C:=⟨h.1.trans k.1,k.2.trans h.2⟩
theorem LH {n₀ b:Nat} {w:World} (f:n₀≤w.heap.size) (hb:b<w.heap.size) (W:World) (l:Nat) (o c:Obj) (e:w.heap.size≤l) (h:W.heap[l]?=some o) (d:o.isCells=false) (g:o.isWalk=false):K7 n₀ b W (W.putObj l c):=
 ⟨belowK_b f W l o c e h d g,bU (a:=⟨b,0,none⟩) (World.putObj_heap_other (show b≠l by omega))⟩
def mU (f:Nat→ByteArray) (len:Nat) (j:Nat):Nat×ByteArray:=(len-1-j,f (len-1-j))
set_option maxRecDepth 100000 in
set_option maxHeartbeats 2000000 in
theorem Az (F:Fence) (n:Nat) (L:F.fn 104) (B:F.round=none) (hn:1≤n) (l r n₀ len cap:Nat) (A:Option Addr) (f:Nat→ByteArray) (hreach:len≤1000000) (J C:List (Nat×ByteArray)→World→Prop)
  (N:∀ pre x W,J pre W→pre.length<len→YieldAt F (n-1) Tryz.prog l #[.int .i64 (x.1:Int),.string x.2] W fun e g=>
   (e = .returned (.bool true)∧J (pre++[x]) g∧K7 n₀ r W g)∨(e = .returned (.bool false)∧C (pre++[x]) g))
  (W:World) (t:W.cell? ⟨r,0,none⟩=some (.slice A len cap)) (D:fG n₀ W A len f) (H:J [] W) :
  CallsIn F n Tryz.prog 104 #[.func (.yield l) #[] #[],.pointer (some ⟨r,0,none⟩)] W fun e g=>(∃ v,e = .returned v) ∧
   ((∃ ys,ys=upto (mU f len) len∧J ys g)∨(∃ pre,(∃ k,k≤len∧pre=upto (mU f len) k)∧C pre g)):=by
 have G:=ah D
 have hw0:IntKind.i64.wrap ((len:Int)-1)=(len:Int)-1:=by rw[iN];omega
 have c:=t;clear D;refine callsIn_of_wp Tryz.func104 rfl L ?_ B;simp only[Tryz.ntmps104,List.size_toArray,lY,List.length_nil,Nat.reduceAdd,Nat.reduceSub,Array.replicate_succ,Array.replicate_zero,List.push_toArray,List.append_toArray,List.nil_append,List.cons_append]
 gi_wp2
 gi_loopw [3] (fun i wr=>∃ k:Nat,k≤len∧i = .int .i64 ((len:Int)-1-k)∧J (upto (mU f len) k) wr∧K7 n₀ r W wr)
  (fun i _=>(intOf i+1).toNat)
 case atStart=>exact⟨0,Nat.zero_le _,by simp,H,bN,rfl⟩
 case round=>
  obtain⟨k,hk,rfl,j,d⟩:=hrel
  by_cases z:k<len
  ·obtain⟨m,O⟩:∃ m:Nat,m+k+1=len:=⟨len-1-k,by omega⟩
   have a:(len:Int)-1-k=(m:Int):=by omega
   have p:len-1-k=m:=by omega
   obtain⟨b,o,rfl,hb,hcx⟩:=(G.below d.1) m (by omega);have hbx:=d.2.trans c;rw[a];have f1:decide ((0:Int)≤(m:Int))=true:=aJ (by omega)
   have hml:(m:Int)<(len:Int):=by omega
   have hwm:IntKind.i64.wrap ((m:Int)-1)=(m:Int)-1:=by rw[iN];omega
   have s:=ah a;obtain⟨fn,tmps,assign,body,Q,M⟩:=N _ (m,f m) wr j (by rw[vR];exact z);dsimp only at Q
   have q:upto (mU f len) (k+1)=upto (mU f len) k++[(m,f m)]:=by rw[og];unfold mU;rw[p]
   have h:=ah q;clear q a p O
   gi_wp2
   refine M.mono ?_;rintro e W3 (⟨rfl,u,w⟩ | ⟨rfl,hJx3⟩)
   ·have y:=Gi d w
    gi_wp2
    go_roundw
    case rel=>exact⟨k+1,by omega,by have:=s.o;first | rfl | (refine congrArg _ ?_;omega) | (simp;omega),by rw[h.o];exact u,y⟩
    case measure=>simp[intOf]
   ·gi_wp2
    refine bodyPost_ret (results_none rfl _ _ _) rfl ?_;exact⟨⟨_,rfl⟩,.inr ⟨_,⟨k+1,by omega,h.symm⟩,hJx3⟩⟩
  ·obtain rfl:k=len:=by omega
   have a:(k:Int)-1-k = -1:=by omega
   rw[a]
   gi_wp2
   go_end0
   exact⟨⟨_,rfl⟩,.inl ⟨_,rfl,j⟩⟩
theorem wO (F:Fence) (n:Nat) (j:F.fn 104) (e:F.round=none) (s:1≤n) (b n₀ len cap:Nat) (A:Option Addr) (f:Nat→ByteArray) (a:len≤1000000) (w:World) (c:b<w.heap.size) (d:n₀≤w.heap.size)
  (r:w.cell? ⟨b,0,none⟩=some (.slice A len cap)) (m:fG n₀ w A len f) :
  SeqStopsK F n Tryz.prog 104 #[.pointer (some ⟨b,0,none⟩)] (fun x:Nat×ByteArray=>#[Value.int .i64 (x.1:Int),Value.string x.2]) (K7 n₀ b) (fun ys=>ys=upto (mU f len) len) (fun pre=>∃ k,k≤len∧pre=upto (mU f len) k) len w:=fun l J h W g _ _ q i=>
 Az F n j e s l b n₀ len cap A f a J h q W ((g.cell (p:=⟨b,0,none⟩) c).trans r) (m.below (g.mono d)) i
theorem rY (A:Option Addr) (n c:Nat) (w:World):Calls Tryz.prog 50 #[.slice A n c] w fun e w'=>e = .returned (.func (.func 104) #[] #[.pointer (some ⟨w.heap.size,0,none⟩)])∧w'=w.alloc (.cells #[.slice A n c] 25):=by
 go_enter Tryz.func50,Tryz.ntmps50;go_wp2;go_ret;exact⟨rfl,rfl⟩
theorem IW (l:List ByteArray) {n:Nat} (h:l.length=n):((upto (mU (fun j=>l[j]?.getD ByteArray.empty) n) n).map fun x=>x.2).reverse=l:=by
 subst h
 apply List.ext_getElem
 ·simp[upto]
 ·intro i h1 a
  have e:l.length-1-(l.length-1-i)=i:=by omega
  simp[upto,mU,List.getElem_reverse,e,a]
theorem RO.kept {w w':World} {ok:Nat→Prop} {sz n c:Nat} {A:Option Addr} {xs:List Value} {d:Option Nat} (l:0<sz) (h:RO w ok sz A n c xs) (q:w.grownBy w' d) (B:∀ r,d=some r→∃ o:Obj,w.heap[r]?=some o∧o.isCells=false):RO w' ok sz A n c xs:=
 ⟨h.len,h.cap,h.one,fun t=>by
  obtain⟨b,o,e,x,m,y,p⟩:=h.at_ t
  have f:0<xs.length:=by rw[h.len];exact Nat.mul_pos t l
  have g:=p 0 _ (v_ f)
  have k:some b≠d:=fun v=>by
   obtain⟨C,z,i⟩:=B b v.symm;unfold World.cell? at g;rw[z]at g
   cases C <;> first | (cases i;done) | (cases g;done)
  have s:=q.block b m k
  exact⟨b,o,e,x,cO m q.size,fun j=>(Eb (a:=⟨b,j,none⟩) s).trans (y j),fun j u hu=>(bU (a:=⟨b,o+j,none⟩) s).trans (p j u hu)⟩⟩
theorem aX.kept {w w':World} {ok:Nat→Prop} {a:Option Nat} (e:w.grownBy w' a) (f:∀ r,a=some r→∃ o:Obj,w.heap[r]?=some o∧o.isCells=false):∀ (t:T) {se c:SV},aX w ok t se c→aX w' ok t se c:=by
 intro t
 induction t using T.ind with
 | h es ks ih=>
  intro se c h;rw[kQ]at h ⊢;obtain⟨m,n,p,u,q,s⟩:=h;refine⟨m,n.kept (by omega) e f,p,u,q.kept (by omega) e f,fun i hi=>?_⟩;obtain⟨b,d,g,j,k,l⟩:=s i hi;exact⟨b,d,g,j,k,ih _ (bT hi) l⟩
theorem aX.one {w:World} {ok:Nat→Prop} {t:T} {A B:Option Addr} {n c m d:Nat} (h:aX w ok t ⟨A,n,c⟩ ⟨B,m,d⟩) (a:ok w.heap.size) (k:ByteArray) (b:TypeId) :
  aX (w.alloc (.cells #[.string k,.slice A n c,.slice B m d] b)) ok (.mk [] [(k,t)]) ⟨Option.none,0,0⟩ ⟨some ⟨w.heap.size,0,Option.none⟩,1,1⟩:=by
 rw[kQ];refine⟨rfl,RO.nil _ _ _ _ _,rfl,[.string k,.slice A n c,.slice B m d],⟨rfl,bG,fun u hu=>?_,fun _=>⟨w.heap.size,0,rfl,a,by simp,fun j=>by go_simp,fun j u hu=>?_⟩⟩,fun i hi=>?_⟩
 ·simp at hu
  rcases hu with rfl | rfl | rfl <;> rfl
 ·rw[Nat.zero_add,cell_of_row _ _ j _ _ (0,0) (heap_alloc_new _ _)]
  simpa using hu
 ·have:i=0:=by simp at hi;omega
  subst this;exact⟨⟨A,n,c⟩,⟨B,m,d⟩,rfl,rfl,rfl,aX.later h ((bN).alloc (bG) _)⟩
def um (l:List ByteArray):Bool:=l.any fun k=>!lg k
theorem rZ {l:List ByteArray} : um l=false↔∀ k∈l,iV k:=by
 unfold um;rw[List.any_eq_false];simp only[Bool.not_eq_true',Bool.not_eq_false];exact⟨fun h k a=>fI.1 (h k a),fun h k a=>fI.2 (h k a)⟩
theorem DY (k:ByteArray) (w:World):Calls Tryz.prog 144 #[.string k] w fun e w'=>e = .returned (.bool (!lg k))∧w'=w:=by
 have H:=fun W=>ah (tF k W);obtain⟨z,a⟩:∃ z,z=lg k:=⟨_,rfl⟩;rw[← a]at H ⊢;clear a;go_enter Tryz.func144,Tryz.ntmps144;go_wp2_with (go_at_call 135;refine (H _).o.mono ?_;rintro e w' ⟨rfl,rfl⟩);go_ret;exact⟨rfl,rfl⟩
set_option maxHeartbeats 1000000 in
theorem ED (l:List ByteArray) (n:Nat) (A:Option Addr) (c:Nat) (w:World) (G:l.length=n) (hn:n≤1000000) (H:Rd w w.heap.size 1 A n c (strs l)) :
  Calls Tryz.prog 132 #[.slice A n c,.func (.func 144) #[] #[]] w fun e w'=>∃ r:Int,e = .returned (.int .i64 r)∧(decide (0≤r)=um l)∧w'=w:=by
 have F:=ah G;have J:=ah H;obtain⟨bz,h⟩:∃ z,um l=z:=⟨_,rfl⟩;rw[h];have s:=ah h;clear G H h;go_enter Tryz.func132,Tryz.ntmps132;go_wp2_with fail
 go_loopw [8] (fun i wr=>∃ k:Nat,k≤n∧i = .int .i64 k∧ai (∀ x∈l.take k,lg x=true)∧wr=w) (fun i _=>n-(intOf i).toNat)
 case atStart=>exact⟨0,by omega,rfl,fun x g=>by simp at g,rfl⟩
 case round=>
  obtain⟨k,hk,rfl,D,rfl⟩:=hrel
  by_cases C:k<n
  ·have j:k<l.length:=by rw[F.o];exact C
   obtain⟨b,o,rfl,hb,B⟩:=J.at_ (by omega);obtain⟨x,g⟩:∃ x,x=l[k]:=⟨_,rfl⟩;have cx:=B k (.string x) (by rw[g];simp[strs,j])
   have m:l.take (k+1)=l.take k++[x]:=by rw[g];exact dZ j
   have f:x∈l:=by rw[g];exact bT j
   have t:=fun W=>ah (DY x W)
   cases q:lg x with
   | true=>
    rw[q]at t
    have u:ai (∀ x∈l.take (k+1),lg x=true):=fun y p=>by
     rw[m]at p
     rcases fO.1 p with p | p
     ·exact D.o y p
     ·rw[eX.1 p];exact q
    clear B g m f q;go_wp2_with (go_at_call 144;refine (t _).o.mono ?_;rintro e w' ⟨rfl,rfl⟩);go_roundw
    case rel=>exact⟨k+1,by omega,by go_num,u,by first | rfl | trivial⟩
    case measure=>simp[intOf];omega
   | false=>
    rw[q]at t
    have a:um l=true:=by
     cases v:um l with
     | true=>rfl
     | false=>exact absurd (fI.2 (rZ.1 v x f)) (by rw[q];simp)
    have d:=ah a;clear B g m f q a;go_wp2_with (go_at_call 144;refine (t _).o.mono ?_;rintro e w' ⟨rfl,rfl⟩);go_ret;exact⟨k,rfl,by rw[← s.o,d.o];exact aJ (by omega),rfl⟩
  ·obtain rfl:k=n:=by omega
   have a:um l=false:=by
    rw[rZ];intro x g;refine fI.1 (D.o x ?_);rw[eO (by rw[F.o];omega)];exact g
   have d:=ah a;clear a;go_wp2_with fail;go_ret;exact⟨-1,rfl,by rw[← s.o,d.o];rfl,rfl⟩
theorem yL (l:List ByteArray) (n:Nat) (A:Option Addr) (c:Nat) (w:World) (b:l.length=n) (f:n≤1000000) (a:Rd w w.heap.size 1 A n c (strs l)) (z:Bool) (d:um l=z) :
  Calls Tryz.prog 84 #[.slice A n c,.func (.func 144) #[] #[]] w fun e w'=>e = .returned (.bool z)∧w'=w:=by
 have H:=ah (ED l n A c w b f a);rw[d]at H;clear b a d;go_enter Tryz.func84,Tryz.ntmps84;go_wp2_with fail;refine H.mono ?_;rintro e w' ⟨r,rfl,a,rfl⟩;go_wp2_with fail;go_ret;exact⟨Dt.aj (by first | exact a | rfl),rfl⟩
end Tr
end
section
open ChangeShapes WideShapes ChangeAt RowKit Go.Shelf
namespace Tr
open Sp Rw
attribute [local go_sem] Oper.semAt_some
open Classical in
noncomputable def jm (t:T) (p:List ByteArray):Int:=if (!ak 5 t||um p)=true then 1 else if 5<p.length then 10 else if t.es=[]∧t.ks=[]then 0 else if 5<levels t+p.length then 10 else 0
open Classical in
noncomputable def kN (t:T) (p:List ByteArray):T:=if jm t p=0∧¬(t.es=[]∧t.ks=[])then bF t p else none_
def KF (u:T) (x:Int) (w:World) (e:Ending) (w':World):Prop:=∃ Ae ne ce Ak nk ck,e = .returned (.tuple #[.agg #[.slice Ae ne ce,.slice Ak nk ck],.int .i64 x])∧aX w' (fun b=>w.heap.size≤b) u ⟨Ae,ne,ce⟩ ⟨Ak,nk,ck⟩∧av w w'
set_option maxRecDepth 100000 in
set_option maxHeartbeats 4000000 in
theorem yD (t:T) (Ae Ak:Option Addr) (ne nk ce ck:Nat) (l:List ByteArray) (A:Option Addr) (n c:Nat) (w:World) (N7:l.length=n) (hn9:n≤100000) (NA:Rd w w.heap.size 1 A n c (strs l)) (hl:LenT reachBytes t) (hn:nodes t≤100000) (M:aF w w.heap.size t ⟨Ae,ne,ce⟩ ⟨Ak,nk,ck⟩) :
    Calls Tryz.prog 105 #[.agg #[.slice Ae ne ce,.slice Ak nk ck],.slice A n c] w (KF (kN t l) (jm t l) w):=by
  have y:(t.es=[]∧t.ks=[])↔(ne=0∧nk=0):=by
    have:=M;rw[← T.eta t]at this;have:=bn this;rw[← this.1,← this.2,jE,jE]
  obtain⟨u,hu⟩:∃ u,kN t l=u:=⟨_,rfl⟩;obtain⟨x,hx⟩:∃ x,jm t l=x:=⟨_,rfl⟩;rw[hu,hx];unfold kN at hu;rw[hx]at hu;unfold jm at hx;rw[N7]at hx;have G:∀ W,av w W→ai (Calls Tryz.prog 46 #[.agg #[.slice Ae ne ce,.slice Ak nk ck]] W fun e w'=>e = .returned (.bool (ak 5 t))∧av W w'):=fun W hW=>bS t Ae Ak ne nk ce ck W hl (aF.more hW.size _ (aF.below M hW));have J:∀ W,av w W→ai (Calls Tryz.prog 84 #[.slice A n c,.func (.func 144) #[] #[]] W fun e w'=>e = .returned (.bool (um l))∧w'=W):=fun W hW=>yL l n A c W N7 (by omega) ((NA.below hW).more hW.size) _ rfl;have Ny:∀ W,ai (Calls Tryz.prog 136 #[.agg #[.slice Ae ne ce,.slice Ak nk ck]] W fun e w'=>e = .returned (.bool (decide (ne=0∧nk=0)))∧av W w'):=fun W=>iO Ae Ak ne nk ce ck W
  have N8:∀ W,av w W→ai (Calls Tryz.prog 145 #[.agg #[.slice Ae ne ce,.slice Ak nk ck]] W fun e w'=>e = .returned (.int .i64 (levels t))∧av W w'):=fun W hW=>EN t Ae Ak ne nk ce ck W (by omega) (aF.more hW.size _ (aF.below M hW));have NC:∀ W,av w W→ai (Calls Tryz.prog 103 #[.agg #[.slice Ae ne ce,.slice Ak nk ck]] W (Eh t ne nk W)):=fun W hW=>rf t Ae Ak ne nk ce ck W hn (aF.more hW.size _ (aF.below M hW));obtain⟨g,hg⟩:∃ g,g=w.heap.size:=⟨_,rfl⟩;have HK:=ah (bQ w Ae Ak ne nk ce ck);rw[← hg]at HK;obtain⟨W0,NW⟩:∃ W,W=w.alloc (.cells #[.slice Ae ne ce,.slice Ak nk ck] 35):=⟨_,rfl⟩;rw[← NW]at HK;have HG:=ah hg;have N9:=ah NW;have k0:=HK.c0;have k1:=HK.c1;clear hg NW
  obtain⟨q,W1,hq,NY,NZ,q0,q1⟩:=A_ W0 (.slice none 0 0) (.slice none 0 0) 35;have d:=p_ hq NY;have HFG:ai (aA g W1):=(show aA g W0 from⟨aL W0 _ HK.c0,fun j=>by rw[N9.o,HG.o];go_simp⟩).later NZ;have Oi:=ah (((HK.later NZ).af q1).af q0)
  have HQ:ai (q=g+1):=ah (by rw[hq,N9.o,HG.o];simp)
  have hgW:g<W0.heap.size:=aL W0 _ HK.c0
  have hgq:g≠q:=by omega
  have hgq2:¬q=g:=by omega
  have hwg:w.heap.size≤g:=by have:=HG.o;omega
  have N:w.heap.size≤q:=by omega
  have NF:=ah NY;have HBq:ai (av w W1):=Oi.below;clear hq NY NZ q0 q1 k0 k1;have a:=Oi;obtain⟨k0,k1,R,S,-⟩:=a.cj;have m0:=d.2 0;have m1:=d.2 1
  cases hz:ak 5 t with
  | false=>
    rw[hz,Bool.not_false,Bool.true_or,if_pos rfl]at hx;subst hx;rw[if_neg (by simp)]at hu;subst hu;rw[hz]at G;clear J Ny N8 NC y hz M hl NA N7;go_enter Tryz.func105,Tryz.ntmps105;go_wp2_with fail;rw[← HG.o,← N9.o,← HQ.o,← NF.o];refine (G _ a.below).o.mono ?_;rintro e w2 ⟨rfl,m⟩;obtain⟨a,d⟩:=gI m a d;clear m;clear k0 k1 R S m0 m1;obtain⟨k0,k1,R,S,-⟩:=a.cj;have m0:=d.2 0;have m1:=d.2 1;obtain⟨w9,i⟩:∃ W,W=(w2.setCell ⟨q,0,none⟩ (.slice none 0 0)).setCell ⟨q,1,none⟩ (.slice none 0 0):=⟨_,rfl⟩
    have O:ai (av w w9):=ah (by rw[i];exact (a.below.setCell (p:=⟨q,0,none⟩) N _).setCell (p:=⟨q,1,none⟩) N _)
    have j0:w9.cell? ⟨q,0,none⟩=some (.slice none 0 0):=by rw[i];go_simp
    have j1:w9.cell? ⟨q,1,none⟩=some (.slice none 0 0):=by rw[i];go_simp
    have Q:=ah i;clear i;go_wp2_with fail;rw[← Q.o];refine bodyPost_ret (v:=.tuple #[.agg #[.slice none 0 0,.slice none 0 0],.int .i64 1]) (by simp[results,Tryz.results105,go_sem,j0,j1]) rfl ⟨none,0,0,none,0,0,rfl,aX.none _ _ _ _ _ _,O⟩
  | true=>
  cases L:um l with
  | true=>
    rw[hz,L,Bool.or_true,if_pos rfl]at hx;subst hx;rw[if_neg (by simp)]at hu;subst hu;rw[hz]at G;rw[L]at J;clear Ny N8 NC y hz L M hl NA N7;go_enter Tryz.func105,Tryz.ntmps105;go_wp2_with fail;rw[← HG.o,← N9.o,← HQ.o,← NF.o];refine (G _ a.below).o.mono ?_;rintro e w2 ⟨rfl,m⟩;obtain⟨a,d⟩:=gI m a d;clear m;clear k0 k1 R S m0 m1;obtain⟨k0,k1,R,S,-⟩:=a.cj;have m0:=d.2 0;have m1:=d.2 1;go_wp2_with fail;refine (J _ a.below).o.mono ?_;rintro e w3 ⟨rfl,rfl⟩;obtain⟨w9,i⟩:∃ W,W=(w3.setCell ⟨q,0,none⟩ (.slice none 0 0)).setCell ⟨q,1,none⟩ (.slice none 0 0):=⟨_,rfl⟩
    have O:ai (av w w9):=ah (by rw[i];exact (a.below.setCell (p:=⟨q,0,none⟩) N _).setCell (p:=⟨q,1,none⟩) N _)
    have j0:w9.cell? ⟨q,0,none⟩=some (.slice none 0 0):=by rw[i];go_simp
    have j1:w9.cell? ⟨q,1,none⟩=some (.slice none 0 0):=by rw[i];go_simp
    have Q:=ah i;clear i;go_wp2_with fail;rw[← Q.o];refine bodyPost_ret (v:=.tuple #[.agg #[.slice none 0 0,.slice none 0 0],.int .i64 1]) (by simp[results,Tryz.results105,go_sem,j0,j1]) rfl ⟨none,0,0,none,0,0,rfl,aX.none _ _ _ _ _ _,O⟩
  | false=>
  rw[hz,L,if_neg (by simp)]at hx
  by_cases h5:5<n
  · rw[if_pos h5]at hx
    subst hx;rw[if_neg (by simp)]at hu;subst hu;rw[hz]at G;rw[L]at J;have f5:decide ((5:Int)<(n:Int))=true:=aJ (by omega);clear Ny N8 NC y hz L M hl NA N7;go_enter Tryz.func105,Tryz.ntmps105;go_wp2_with fail;rw[← HG.o,← N9.o,← HQ.o,← NF.o];refine (G _ a.below).o.mono ?_;rintro e w2 ⟨rfl,m⟩;obtain⟨a,d⟩:=gI m a d;clear m;clear k0 k1 R S m0 m1;obtain⟨k0,k1,R,S,-⟩:=a.cj;have m0:=d.2 0;have m1:=d.2 1;go_wp2_with fail;refine (J _ a.below).o.mono ?_;rintro e w3 ⟨rfl,rfl⟩;obtain⟨w9,i⟩:∃ W,W=(w3.setCell ⟨q,0,none⟩ (.slice none 0 0)).setCell ⟨q,1,none⟩ (.slice none 0 0):=⟨_,rfl⟩
    have O:ai (av w w9):=ah (by rw[i];exact (a.below.setCell (p:=⟨q,0,none⟩) N _).setCell (p:=⟨q,1,none⟩) N _)
    have j0:w9.cell? ⟨q,0,none⟩=some (.slice none 0 0):=by rw[i];go_simp
    have j1:w9.cell? ⟨q,1,none⟩=some (.slice none 0 0):=by rw[i];go_simp
    have Q:=ah i;clear i;go_wp2_with fail;rw[← Q.o];refine bodyPost_ret (v:=.tuple #[.agg #[.slice none 0 0,.slice none 0 0],.int .i64 10]) (by simp[results,Tryz.results105,go_sem,j0,j1]) rfl ⟨none,0,0,none,0,0,rfl,aX.none _ _ _ _ _ _,O⟩
  rw[if_neg h5]at hx;have f5:decide ((5:Int)<(n:Int))=false:=aM (by omega)
  by_cases he:t.es=[]∧t.ks=[]
  · rw[if_pos he]at hx
    subst hx;rw[if_neg (by intro h;exact h.2 he)]at hu;subst hu;rw[hz]at G;rw[L]at J;rw[aJ (y.1 he)]at Ny;clear N8 NC y hz L M hl NA N7 he h5;go_enter Tryz.func105,Tryz.ntmps105;go_wp2_with fail;rw[← HG.o,← N9.o,← HQ.o,← NF.o];refine (G _ a.below).o.mono ?_;rintro e w2 ⟨rfl,m⟩;obtain⟨a,d⟩:=gI m a d;clear m;clear k0 k1 R S m0 m1;obtain⟨k0,k1,R,S,-⟩:=a.cj;have m0:=d.2 0;have m1:=d.2 1;go_wp2_with fail;refine (J _ a.below).o.mono ?_;rintro e w3 ⟨rfl,rfl⟩;go_wp2_with fail;refine (Ny _).o.mono ?_;rintro e w4 ⟨rfl,m⟩;obtain⟨a,d⟩:=gI m a d;clear m;clear k0 k1 R S m0 m1;obtain⟨k0,k1,R,S,-⟩:=a.cj;have m0:=d.2 0;have m1:=d.2 1;obtain⟨w9,i⟩:∃ W,W=(w4.setCell ⟨q,0,none⟩ (.slice none 0 0)).setCell ⟨q,1,none⟩ (.slice none 0 0):=⟨_,rfl⟩
    have O:ai (av w w9):=ah (by rw[i];exact (a.below.setCell (p:=⟨q,0,none⟩) N _).setCell (p:=⟨q,1,none⟩) N _)
    have j0:w9.cell? ⟨q,0,none⟩=some (.slice none 0 0):=by rw[i];go_simp
    have j1:w9.cell? ⟨q,1,none⟩=some (.slice none 0 0):=by rw[i];go_simp
    have Q:=ah i;clear i;go_wp2_with fail;rw[← Q.o];refine bodyPost_ret (v:=.tuple #[.agg #[.slice none 0 0,.slice none 0 0],.int .i64 0]) (by simp[results,Tryz.results105,go_sem,j0,j1]) rfl ⟨none,0,0,none,0,0,rfl,aX.none _ _ _ _ _ _,O⟩
  rw[if_neg he]at hx;rw[aM (fun h=>he (y.2 h))]at Ny;have Oc:=uH (aO.1 hz);obtain⟨lv,NG⟩:∃ z,levels t=z:=⟨_,rfl⟩;rw[NG]at hx N8 Oc
  have Oy:IntKind.i64.wrap ((lv:Int)+(n:Int))=(lv:Int)+n:=by rw[iN];omega
  by_cases h6:5<lv+n
  · rw[if_pos h6]at hx
    subst hx;rw[if_neg (by simp)]at hu;subst hu;rw[hz]at G;rw[L]at J;have f6:decide ((5:Int)<(lv:Int)+(n:Int))=true:=aJ (by omega);clear NC y hz L M hl NA N7 he h5 Oc NG h6;go_enter Tryz.func105,Tryz.ntmps105;go_wp2_with fail;rw[← HG.o,← N9.o,← HQ.o,← NF.o];refine (G _ a.below).o.mono ?_;rintro e w2 ⟨rfl,m⟩;obtain⟨a,d⟩:=gI m a d;clear m;clear k0 k1 R S m0 m1;obtain⟨k0,k1,R,S,-⟩:=a.cj;have m0:=d.2 0;have m1:=d.2 1;go_wp2_with fail;refine (J _ a.below).o.mono ?_;rintro e w3 ⟨rfl,rfl⟩;go_wp2_with fail;refine (Ny _).o.mono ?_;rintro e w4 ⟨rfl,m⟩;obtain⟨a,d⟩:=gI m a d;clear m;clear k0 k1 R S m0 m1;obtain⟨k0,k1,R,S,-⟩:=a.cj;have m0:=d.2 0;have m1:=d.2 1
    go_wp2_with fail;refine (N8 _ a.below).o.mono ?_;rintro e w5 ⟨rfl,m⟩;obtain⟨a,d⟩:=gI m a d;clear m;clear k0 k1 R S m0 m1;obtain⟨k0,k1,R,S,-⟩:=a.cj;have m0:=d.2 0;have m1:=d.2 1;obtain⟨w9,i⟩:∃ W,W=(w5.setCell ⟨q,0,none⟩ (.slice none 0 0)).setCell ⟨q,1,none⟩ (.slice none 0 0):=⟨_,rfl⟩
    have O:ai (av w w9):=ah (by rw[i];exact (a.below.setCell (p:=⟨q,0,none⟩) N _).setCell (p:=⟨q,1,none⟩) N _)
    have j0:w9.cell? ⟨q,0,none⟩=some (.slice none 0 0):=by rw[i];go_simp
    have j1:w9.cell? ⟨q,1,none⟩=some (.slice none 0 0):=by rw[i];go_simp
    have Q:=ah i;clear i;go_wp2_with fail;rw[← Q.o];refine bodyPost_ret (v:=.tuple #[.agg #[.slice none 0 0,.slice none 0 0],.int .i64 10]) (by simp[results,Tryz.results105,go_sem,j0,j1]) rfl ⟨none,0,0,none,0,0,rfl,aX.none _ _ _ _ _ _,O⟩
  rw[if_neg h6]at hx;subst hx;rw[if_pos ⟨rfl,he⟩]at hu;rw[hz]at G;rw[L]at J;have f6:decide ((5:Int)<(lv:Int)+(n:Int))=false:=aM (by omega);have HU:=ah hu;have O3:=ah N7;have O4:=ah NA;clear y hz L M hl NA N7 he h5 Oc NG h6 hu;refine (callsIn_wide (n:=6)).1 ?_;refine callsIn_of_wp_marks Tryz.func105 rfl trivial ?_ rfl;simp only[Tryz.ntmps105,List.size_toArray,lY,List.length_nil,Nat.reduceAdd,Nat.reduceSub,Array.replicate_succ,Array.replicate_zero,List.push_toArray,List.append_toArray,List.nil_append,List.cons_append];have O7:Fence.wide.fn 46:=trivial;have O9:Fence.wide.fn 84:=trivial;have O6:Fence.wide.fn 136:=trivial;have O_:Fence.wide.fn 145:=trivial
  have O8:Fence.wide.fn 103:=trivial;have OA:Fence.wide.fn 50:=trivial
  gi_wp2_with (first
    | (gi_at_call 46
       rw[← HG.o,← N9.o,← HQ.o,← NF.o];refine (callsIn_wide.2 (G _ a.below).o).mono ?_;rintro e w2 ⟨rfl,m⟩;obtain⟨a,d⟩:=gI m a d;clear m k0 k1 R S m0 m1;have R:=a.c2
       have S:=a.c3)
    | (gi_at_call 84
       refine (callsIn_wide.2 (J _ a.below).o).mono ?_
       rintro e w3 ⟨rfl,rfl⟩)
    | (gi_at_call 136
       refine (callsIn_wide.2 (Ny _).o).mono ?_;rintro e w4 ⟨rfl,m⟩;obtain⟨a,d⟩:=gI m a d;clear m R S;have R:=a.c2
       have S:=a.c3)
    | (gi_at_call 145
       refine (callsIn_wide.2 (N8 _ a.below).o).mono ?_;rintro e w5 ⟨rfl,m⟩;obtain⟨a,d⟩:=gI m a d;clear m R S;have R:=a.c2
       have S:=a.c3)
    | (gi_at_call 103
       refine (callsIn_wide.2 (NC _ a.below).o).mono ?_;rintro e w6 ⟨NH,NK,NI,NM,rfl,Ox,m⟩;have Ol:=ah Ox;have Og:=a;obtain⟨a,d⟩:=gI m a d;have NP:=m.size
       clear m R S Ox)
    | (gi_at_call 50
       refine (callsIn_wide.2 (rY A n c _)).mono ?_
       rintro e w7 ⟨rfl,rfl⟩))
  clear G J Ny N8 NC f5 f6 Oy O7 O9 O6 O_ O8 OA;have Ow:q<_:=aL _ _ Og.c0;have OH:=Og.below.size;have Ou:_≤w6.heap.size:=NP;obtain⟨k,N_⟩:∃ B,B=w6.heap.size:=⟨_,rfl⟩;obtain⟨X,Nz⟩:∃ W,W=(w6.alloc (.cells #[.slice NH ne NK,.slice NI nk NM] 35)).alloc (.cells #[.slice A n c] 25):=⟨_,rfl⟩
  have Oa:av w6 X:=by rw[Nz];exact ((Below.refl _ w6).alloc (bG) _).alloc (by simp) _
  have hs8:X.heap.size=k+2:=by rw[Nz,N_];simp
  have i0:X.cell? ⟨k,0,none⟩=some (.slice NH ne NK):=by rw[Nz,N_];go_simp
  have i1:X.cell? ⟨k,1,none⟩=some (.slice NI nk NM):=by rw[Nz,N_];go_simp
  have i2:X.cell? ⟨k+1,0,none⟩=some (.slice A n c):=by rw[Nz,N_];go_simp
  have Od:X.frozen? ⟨k,0,none⟩=false:=by rw[Nz,N_];go_simp
  have Oe:X.frozen? ⟨k,1,none⟩=false:=by rw[Nz,N_];go_simp
  have NJ:=a.later Oa;have Oh:=d.later Oa;have NU:aX X (fun b=>w.heap.size≤b∧b≠q∧b≠k) t ⟨NH,ne,NK⟩ ⟨NI,nk,NM⟩:=aX.later (aX.mono (fun b m OG=>⟨by omega,by omega,by omega⟩) _ Ol) Oa
  have NQ:w.heap.size≤k:=by omega
  have hqB6:q≠k:=by omega
  have hqB6':¬k=q:=by omega
  have NV:fG w.heap.size X A n (fun j=>l[j]?.getD ByteArray.empty):=(fG.xI O4).below NJ.below;rw[← N_,← Nz]
  have I0:(∃ (U:Option Addr) (nx Y:Nat) (V:Option Addr) (mx Z:Nat),X.cell? ⟨k,0,none⟩=some (.slice U nx Y)∧X.cell? ⟨k,1,none⟩=some (.slice V mx Z)∧X.frozen? ⟨k,0,none⟩=false∧X.frozen? ⟨k,1,none⟩=false∧aX X (fun b=>w.heap.size≤b∧b≠q∧b≠k) (bF t (([]:List (Nat×ByteArray)).map fun x=>x.2).reverse) ⟨U,nx,Y⟩ ⟨V,mx,Z⟩)∧X.cell? ⟨k+1,0,none⟩=some (.slice A n c)∧X.cell? ⟨q,0,none⟩=some (.slice none 0 0)∧X.cell? ⟨q,1,none⟩=some (.slice none 0 0)∧X.frozen? ⟨q,0,none⟩=false∧X.frozen? ⟨q,1,none⟩=false:=
    ⟨⟨NH,ne,NK,NI,nk,NM,i0,i1,Od,Oe,NU⟩,i2,NJ.c0,NJ.c1,Oh.2 0,Oh.2 1⟩
  have NT:=HU.o;clear HU;clear Nz N_ Ol Ow OH Ou NP
  refine' wpIn_rangeFunc_ownG (F:=Fence.wide) (n:=6) rfl (by omega) (gf:=104) (lb:=#[.pointer (some ⟨k+1,0,none⟩)]) rfl trivial (enters_of Tryz.func104 (by kernel_rfl) rfl)
    (wO Fence.wide 5 trivial rfl (by omega) (k+1) w.heap.size n c A _ (by omega) X (by omega) (by omega) i2 NV) Gi (LH (by omega) (by omega)) (bN) (fun _=>rfl)
    (fun pre W=>((∃ (U:Option Addr) (nx Y:Nat) (V:Option Addr) (mx Z:Nat),W.cell? ⟨k,0,none⟩=some (.slice U nx Y)∧W.cell? ⟨k,1,none⟩=some (.slice V mx Z)∧W.frozen? ⟨k,0,none⟩=false∧W.frozen? ⟨k,1,none⟩=false∧aX W (fun b=>w.heap.size≤b∧b≠q∧b≠k) (bF t ((pre:List (Nat×ByteArray)).map fun x=>x.2).reverse) ⟨U,nx,Y⟩ ⟨V,mx,Z⟩)∧W.cell? ⟨k+1,0,none⟩=some (.slice A n c)∧W.cell? ⟨q,0,none⟩=some (.slice none 0 0)∧W.cell? ⟨q,1,none⟩=some (.slice none 0 0)∧W.frozen? ⟨q,0,none⟩=false∧W.frozen? ⟨q,1,none⟩=false)∧av w W)
    (fun _ _ _=>False)
    (OwnFrom.and (Own.from (fun s A' B' row hs hg M=>by
      obtain⟨⟨U,nx,Y,V,mx,Z,h1,h2,h3,h4,h5⟩,h6,h7,h8,h9,NS⟩:=hs
      exact⟨⟨U,nx,Y,V,mx,Z,cell_kept h1 hg M,cell_kept h2 hg M,(frozen_kept h1 hg M).trans h3,(frozen_kept h2 hg M).trans h4,aX.kept hg M _ h5⟩,cell_kept h6 hg M,cell_kept h7 hg M,cell_kept h8 hg M,(frozen_kept h7 hg M).trans h9,(frozen_kept h8 hg M).trans NS⟩) _) (ownFrom_below (bG) (by omega)))
    (fun _ _ _ _ _ hs _ _=>hs)
    ⟨I0,NJ.below⟩ _ ?assign ?body ?done ?stop
  case assign=>
    intro l' x W K hK
    gi_wp2
    exact hK
  case body=>
    rintro l' pre x W ⟨⟨⟨U,nx,Y,V,mx,Z,h1,h2,h3,h4,h5⟩,h6,h7,h8,h9,NS⟩,hB⟩ OG;have OC:k<W.heap.size:=aL W _ h1;have hb7:k+1<W.heap.size:=aL W _ h6;have hq7:q<W.heap.size:=aL W _ h7;obtain⟨H,C⟩:∃ H,H=((W.alloc (.cells #[.string x.2,.slice U nx Y,.slice V mx Z] 134)).setCell ⟨k,0,none⟩ (.slice none 0 0)).setCell ⟨k,1,none⟩ (.slice (some ⟨W.heap.size,0,none⟩) 1 1):=⟨_,rfl⟩
    have Ov:KeepsOthers W H:=by rw[C];exact ((KeepsOthers.alloc _ _).trans (KeepsOthers.setCell _ _ _)).trans (KeepsOthers.setCell _ _ _)
    have Ob:Below w.heap.size W H:=by rw[C];exact (((Below.refl w.heap.size W).alloc hB.size _).setCell (p:=⟨k,0,none⟩) NQ _).setCell (p:=⟨k,1,none⟩) NQ _
    have e6:H.cell? ⟨k+1,0,none⟩=some (.slice A n c):=by rw[C];go_simp
    have e1:H.cell? ⟨k,0,none⟩=some (.slice none 0 0):=by rw[C];go_simp
    have e2:H.cell? ⟨k,1,none⟩=some (.slice (some ⟨W.heap.size,0,none⟩) 1 1):=by rw[C];go_simp
    have e3:H.frozen? ⟨k,0,none⟩=false:=by rw[C];go_simp
    have e4:H.frozen? ⟨k,1,none⟩=false:=by rw[C];go_simp
    have e7:H.cell? ⟨q,0,none⟩=some (.slice none 0 0):=by rw[C];go_simp
    have e8:H.cell? ⟨q,1,none⟩=some (.slice none 0 0):=by rw[C];go_simp
    have e9:H.frozen? ⟨q,0,none⟩=false:=by rw[C];go_simp
    have Om:H.frozen? ⟨q,1,none⟩=false:=by rw[C];go_simp
    have e5:aX H (fun b=>w.heap.size≤b∧b≠q∧b≠k) (bF t ((pre++[x]).map fun x=>x.2).reverse) ⟨none,0,0⟩ ⟨some ⟨W.heap.size,0,none⟩,1,1⟩:=by
      have h:=aX.one h5 (show w.heap.size≤W.heap.size∧W.heap.size≠q∧W.heap.size≠k from⟨hB.size,by omega,by omega⟩) x.2 134
      have e:((pre++[x]).map fun x=>x.2).reverse=x.2::(pre.map fun x=>x.2).reverse:=by simp
      rw[e,C];exact aX.keep (by simp[World.setCell]) (fun b m _=>(cZ _ ⟨k,1,none⟩ _ b (fun e=>m.2.2 e)).trans (cZ _ ⟨k,0,none⟩ _ b (fun e=>m.2.2 e))) _ h
    have HE:=ah (show _∧_ from⟨And.intro Ov Ob,(⟨⟨none,0,0,some ⟨W.heap.size,0,none⟩,1,1,e1,e2,e3,e4,e5⟩,e6,e7,e8,e9,Om⟩:(∃ (U:Option Addr) (nx Y:Nat) (V:Option Addr) (mx Z:Nat),H.cell? ⟨k,0,none⟩=some (.slice U nx Y)∧H.cell? ⟨k,1,none⟩=some (.slice V mx Z)∧H.frozen? ⟨k,0,none⟩=false∧H.frozen? ⟨k,1,none⟩=false∧aX H (fun b=>w.heap.size≤b∧b≠q∧b≠k) (bF t ((pre++[x]).map fun x=>x.2).reverse) ⟨U,nx,Y⟩ ⟨V,mx,Z⟩)∧H.cell? ⟨k+1,0,none⟩=some (.slice A n c)∧H.cell? ⟨q,0,none⟩=some (.slice none 0 0)∧H.cell? ⟨q,1,none⟩=some (.slice none 0 0)∧H.frozen? ⟨q,0,none⟩=false∧H.frozen? ⟨q,1,none⟩=false)⟩);have Oj:ai (H.cell? ⟨k+1,0,none⟩=W.cell? ⟨k+1,0,none⟩):=e6.trans h6.symm;have Oz:=ah (hB.trans Ob)
    have NN:H=((W.setCell ⟨k,0,none⟩ (.slice none 0 0)).setCell ⟨k,1,none⟩ (.slice (some ⟨W.heap.size,0,none⟩) 1 1)).alloc (.cells #[.string x.2,.slice U nx Y,.slice V mx Z] 134):=by rw[C];go_simp
    have O5:=ah NN;clear NN;clear e1 e2 e3 e4 e5 e6 e7 e8 e9 Om Ov Ob C I0 i0 i1 i2 Od Oe NU NT NV
    gi_wp2
    rw[← O5.o];exact⟨HE.1.1.from _,⟨HE.1.2,Oj⟩,HE.2,Oz⟩
  case done=>
    rintro D ys W hD rfl ⟨⟨⟨U,nx,Y,V,mx,Z,h1,h2,h3,h4,h5⟩,h6,h7,h8,h9,NS⟩,hB⟩ hK;rw[IW l O3.o,NT]at h5;have OC:k<W.heap.size:=aL W _ h1;obtain⟨W9,NE⟩:∃ W9,W9=(W.setCell ⟨q,0,none⟩ (.slice U nx Y)).setCell ⟨q,1,none⟩ (.slice V mx Z):=⟨_,rfl⟩
    have Ot:W9.heap[D]?=some (.deferred (some [])):=by rw[NE];exact ((KeepsOthers.setCell W ⟨q,0,none⟩ (.slice U nx Y)).trans (KeepsOthers.setCell _ ⟨q,1,none⟩ (.slice V mx Z))).same D _ hK rfl
    have j0:W9.cell? ⟨q,0,none⟩=some (.slice U nx Y):=by rw[NE];go_simp
    have j1:W9.cell? ⟨q,1,none⟩=some (.slice V mx Z):=by rw[NE];go_simp
    have Oo:aX W9 (fun b=>w.heap.size≤b∧b≠q∧b≠k) u ⟨U,nx,Y⟩ ⟨V,mx,Z⟩:=by
      rw[NE];exact aX.keep (by simp[World.setCell]) (fun b m _=>(cZ _ ⟨q,1,none⟩ _ b (fun e=>m.2.1 e)).trans (cZ _ ⟨q,0,none⟩ _ b (fun e=>m.2.1 e))) _ h5
    have Oq:av w W9:=by rw[NE];exact (hB.setCell (p:=⟨q,0,none⟩) N _).setCell (p:=⟨q,1,none⟩) N _
    have OB:w.heap.size≤D:=by omega
    have H5:=ah Oo;have O:=ah Oq;have Q:=ah NE;have NR:=ah Ot;have O0:=ah j0;have O1:=ah j1;clear h5 Oo hB Oq NE Ot j0 j1 I0 i0 i1 i2 Od Oe NU NT NV
    gi_wp2
    rw[← Q.o];refine⟨by simp,.inl ⟨_,_,rfl,run_takeDeferred NR,?_⟩⟩;have hg:=grownBy_putObj' W9 D (.deferred none)
    have M:∀ r,some D=some r→∃ o:Obj,W9.heap[r]?=some o∧o.isCells=false:=fun r e=>by cases e;exact⟨_,NR,rfl⟩
    have OD:=cell_kept O0 hg M;have OE:=cell_kept O1 hg M;refine⟨.tuple #[.agg #[.slice U nx Y,.slice V mx Z],.int .i64 0],by simp[results,Tryz.f105,go_sem,OD,OE],U,nx,Y,V,mx,Z,rfl,aX.mono (fun b m _=>m.1) _ (aX.kept hg M _ H5),O.trans (belowK_b (w:=w) (bG) W9 D _ _ OB NR rfl rfl)⟩
  case stop=>
    rintro D c' pre W _ _ h _;exact h.elim
end Tr
end
section
open ChangeShapes WideShapes ChangeAt RowKit
namespace Tr
open Sp Rw
end Tr
namespace Tr
open Sp Rw
end Tr
namespace Tr
open Sp Rw
set_option maxRecDepth 100000
theorem strs_of_trod {H:Type} {enc:TypeId×Value→H} {W:World} {A:Option Addr} {len cap fuel:Nat} {x:DataW H×List MemPlace}
  (h:DataW.trod enc Tryz.prog W 0 (fun _=>true) true fuel 25 (Value.slice A len cap).cells.toList=some x) :
  ∃ l:List ByteArray,l.length=len∧Rd W W.heap.size 1 A len cap (strs l)∧len≤maxLen:=by
 have b:∀ l:List ByteArray,l.flatMap (fun s=>[Value.string s])=strs l:=fun l=>by
  unfold strs
  induction l with
  | nil=>rfl
  | cons a l i=>rw[tX,i];rfl
 obtain⟨l,d,c,f⟩:=rd_of_trod (sz:=1) (fun s:ByteArray=>[Value.string s]) (fun _=>rfl) (fun _ u hu=>by rw[eX.1 hu];rfl) (by omega) Tryz.underlying25 (by kernel_rfl) (fun n cs y g=>by
  obtain⟨s,e,_,_⟩:=DataW.trod_string Tryz.underlying9 g
  exact⟨s,e⟩) h
 rw[b]at c;exact⟨l,d,c,f⟩
theorem LenT.of_nodes {m:Nat} : ∀ {t:T},nodes t≤m→LenT m t:=by
 intro t
 induction t using T.ind with
 | h es ks ih=>
  intro h;have:=bE es ks;exact .mk (by omega) (by omega) fun k a=>ih k a (aN (dM a) h)
theorem LenT.mono {m c:Nat} (b:m≤c):∀ {t:T},LenT m t→LenT c t:=by
 intro t
 induction t using T.ind with
 | h es ks ih=>exact fun h=>.mk (aN h.es b) (aN h.ks b) fun k a=>ih k a (h.yH a)
theorem LenT.few {t:T} (h:nodes t≤100000):LenT reachBytes t:=(LenT.of_nodes h).mono (by unfold reachBytes;omega)
theorem nodes_wrap (t:T):∀ p:List ByteArray,nodes (bF t p)=nodes t+p.length
 | []=>rfl
 | k::p=>by
  unfold bF;rw[bJ,List.map_cons,List.map_nil,om,List.sum_nil,nodes_wrap t p];simp;omega
theorem right_none:ak 5 none_=true:=aO.2 (au.none (d:=4))
theorem nodes_none:nodes none_=0:=by unfold none_;rw[bJ];rfl
end Tr
end
section
namespace Cs
open Tr Cx Sp Classical
theorem AllJ.snoc {l:List K} {x y k:K} (h:AllJ l x) (b:RK k) (a:l8 x k y):AllJ (l++[k]) y:=h.app (AllJ.one b) a
end Cs
end
section
open ChangeShapes WideShapes ChangeAt RowKit
namespace Cx
open Sp Rw
end Cx
namespace Cx
open Sp Rw
end Cx
namespace Cx
open Sp Rw
def Ng (l:List S3) (b:Bool) (d:Nat):Int:=if b then Jm (part l d)else 0
theorem D_ (l:List S3) (n:Nat) (A:Option Addr) (c:Nat) (w:World) (f:l.length=n) (g:n≤100000) (i:Rd w w.heap.size 3 A n c (aP l)) (b:Bool) (a:bA l=b) (q:Nat→List (Int×Int)) (h:q=fun d:Nat=>if b then part l (d:Int)else []) :
  Calls Tryz.prog 162 #[.slice A n c] w fun e w'=>∃ s:Nat→SV,e = .returned (.tuple #[.agg #[.slice (s 0).A (s 0).n (s 0).c,.slice (s 1).A (s 1).n (s 1).c,.slice (s 2).A (s 2).n (s 2).c,.slice (s 3).A (s 3).n (s 3).c],.bool b])∧ai (∀ d:Nat,d<4→Aw w' (s d) (q d))∧av w w':=by
 rw[h];exact qJ l n A c w f g i b a
theorem JR {l:List S3} {b:Bool} (a:bA l=b) {n:Nat} (hl:l.length=n) (hn:n≤100000) {q:Nat→List (Int×Int)} (c:q=fun d:Nat=>if b then part l (d:Int)else []) :
  (∀ d:Nat,d<4→aB 1 (q d))∧(∀ d,(q d).length≤100000)∧∀ d,Jm (q d)=Ng l b d:=by
 subst c;refine⟨fun d hd=>Dq a d hd,fun d=>?_,fun d=>?_⟩
 ·dsimp only;split
  ·have:=iH l d;omega
  ·simp
 ·unfold Ng;dsimp only;cases b <;> rfl
end Cx
namespace Cx
open Sp Rw
noncomputable def fH (l:List S3) (a v:Int):Bool:=Dt.ak a v&&(bA l&&hasB (part l a) v)
theorem FX {a v:Int} (h:Dt.ak a v=true):∃ d:Nat,a=d∧d<4:=by
 have:=jH (p:=0≤a∧a<4∧1≤v∧v≤1099511627776) h;exact⟨a.toNat,by omega,by omega⟩
set_option maxRecDepth 100000 in
set_option maxHeartbeats 2000000 in
theorem KV (l:List S3) (n:Nat) (A:Option Addr) (c:Nat) (a v:Int) (w:World) (H:l.length=n) (O:n≤100000) (L:Rd w w.heap.size 3 A n c (aP l)) (hd:Dt.ak a v=false) :
  Calls Tryz.prog 138 #[.slice A n c,.agg #[.int .i64 a,.int .i64 v]] w fun e w'=>e = .returned (.bool false)∧av w w':=by
 obtain⟨q,J⟩:∃ q:Nat→List (Int×Int),q=fun d:Nat=>if bA l then part l (d:Int)else []:=⟨_,rfl⟩
 have B:=fun W (h:av w W)=>ah (D_ l n A c W H O ((L.below h).more h.size) (bA l) rfl q J);obtain⟨g,y⟩:∃ g,g=w.heap.size:=⟨_,rfl⟩;obtain⟨F,m⟩:∃ W,W=w.alloc (.cells #[.int .i64 a,.int .i64 v] 37):=⟨_,rfl⟩
 have C:ai (Kept [(⟨g,0,none⟩,.int .i64 a),(⟨g,1,none⟩,.int .i64 v)] w F):=by
  rw[m,y];exact (((Kept.nil w).alloc _).af (by go_simp)).af (by go_simp)
 have M:=ah y;have u:=ah m;have D:=fun W=>ah (Dt.fD a v W);rw[hd]at D;clear H L J y m hd;go_enter Tryz.func138,Tryz.ntmps138;go_wp2_with fail;rw[← M.o,← u.o];refine (B F C.below).o.mono ?_;rintro e Q ⟨s,rfl,HS,r⟩;obtain⟨N,p⟩:∃ W,W=Q.alloc (.cells #[.slice (s 0).A (s 0).n (s 0).c,.slice (s 1).A (s 1).n (s 1).c,.slice (s 2).A (s 2).n (s 2).c,.slice (s 3).A (s 3).n (s 3).c] 183):=⟨_,rfl⟩
 have j:ai (Kept [(⟨g,0,none⟩,.int .i64 a),(⟨g,1,none⟩,.int .i64 v)] w N):=by rw[p];exact (C.later r).alloc _
 have k0:=j.c0;have k1:=j.c1;have x:=ah p;clear r p B;go_wp2;rw[← x.o];refine Rk (S:=fun W=>W.cell? ⟨g,0,none⟩=some (.int .i64 a)∧W.cell? ⟨g,1,none⟩=some (.int .i64 v)) (fun hHeld=>?_);refine wpAnyH_take (i:=0) (oi:=⟨some 12,_,_,_,_,_⟩) (v:=?_) rfl (by kernel_rfl) (by kernel_rfl) (by kernel_rfl) (fun _ _ _ h=>h) (Or.inl ⟨by kernel_rfl,?_⟩) (by assumption) ?_;rotate_left
 (intro z b;(try dsimp only at b);go_simp;try with_reducible rfl)
 refine Sm ?_
 refine Tc 1 (fun K G=>?_);go_simp;(go_at_call 163;refine (D _).o.mono ?_;rintro e w2 ⟨rfl,t⟩;have k:=ah ((j.drew).later t);clear t);refine Th G ?_ (fun f=>?_);exact⟨k.c0,k.c1⟩;clear G K hHeld;have hHeld:=f;clear f;refine wpAnyH_take (i:=2) (oi:=⟨some 14,_,_,_,_,_⟩) (v:=?_) rfl (by kernel_rfl) (by kernel_rfl) (by kernel_rfl) (fun _ _ _ h=>h) (Or.inl ⟨by kernel_rfl,?_⟩) (by assumption) ?_;rotate_left
 (intro z b;(try dsimp only at b);go_simp;try with_reducible rfl)
 refine Sm ?_
 refine wpAnyH_take (i:=3) (oi:=⟨some 15,_,_,_,_,_⟩) (v:=undef) rfl (by kernel_rfl) (by kernel_rfl) (by kernel_rfl) (fun _ _ _ h=>h) (Or.inr ⟨by kernel_rfl,rfl⟩) (by assumption) ?_
 refine Sm ?_
 refine wpAnyH_take (i:=4) (oi:=⟨some 16,_,_,_,_,_⟩) (v:=undef) rfl (by kernel_rfl) (by kernel_rfl) (by kernel_rfl) (fun _ _ _ h=>h) (Or.inr ⟨by kernel_rfl,rfl⟩) (by assumption) ?_
 refine Sm ?_
 refine wpAnyH_take (i:=5) (oi:=⟨some 17,_,_,_,_,_⟩) (v:=undef) rfl (by kernel_rfl) (by kernel_rfl) (by kernel_rfl) (fun _ _ _ h=>h) (Or.inr ⟨by kernel_rfl,rfl⟩) (by assumption) ?_
 refine Sm ?_
 refine wpAnyH_take (i:=6) (oi:=⟨some 18,_,_,_,_,_⟩) (v:=undef) rfl (by kernel_rfl) (by kernel_rfl) (by kernel_rfl) (fun _ _ _ h=>h) (Or.inr ⟨by kernel_rfl,rfl⟩) (by assumption) ?_
 refine Sm ?_
 refine wpAnyH_take (i:=7) (oi:=⟨some 19,_,_,_,_,_⟩) (v:=undef) rfl (by kernel_rfl) (by kernel_rfl) (by kernel_rfl) (fun _ _ _ h=>h) (Or.inr ⟨by kernel_rfl,rfl⟩) (by assumption) ?_
 refine Sm ?_
 refine wpAnyH_take (i:=8) (oi:=⟨some 20,_,_,_,_,_⟩) (v:=undef) rfl (by kernel_rfl) (by kernel_rfl) (by kernel_rfl) (fun _ _ _ h=>h) (Or.inr ⟨by kernel_rfl,rfl⟩) (by assumption) ?_
 refine Sm ?_
 refine wpAnyH_take (i:=9) (oi:=⟨some 21,_,_,_,_,_⟩) (v:=undef) rfl (by kernel_rfl) (by kernel_rfl) (by kernel_rfl) (fun _ _ _ h=>h) (Or.inr ⟨by kernel_rfl,rfl⟩) (by assumption) ?_
 refine Sm ?_
 refine wpAnyH_take (i:=10) (oi:=⟨some 22,_,_,_,_,_⟩) (v:=?_) rfl (by kernel_rfl) (by kernel_rfl) (by kernel_rfl) (fun _ _ _ h=>h) (Or.inl ⟨by kernel_rfl,?_⟩) (by assumption) ?_;rotate_left
 (intro z b;(try dsimp only at b);go_simp;try with_reducible rfl)
 refine Sm ?_
 refine wpAnyH_take (i:=11) (oi:=⟨some 4,_,_,_,_,_⟩) (v:=?_) rfl (by kernel_rfl) (by kernel_rfl) (by kernel_rfl) (fun _ _ _ h=>h) (Or.inl ⟨by kernel_rfl,?_⟩) (by assumption) ?_;rotate_left
 (intro z b;(try dsimp only at b);go_simp;try with_reducible rfl)
 refine Sm ?_
 refine Td ?_;go_wp2;go_ret;exact⟨rfl,k.below⟩
set_option maxRecDepth 100000 in
set_option maxHeartbeats 2000000 in
theorem Jv (l:List S3) (n:Nat) (A:Option Addr) (c:Nat) (d:Nat) (v:Int) (w:World) (hl:l.length=n) (hn:n≤100000) (hr:Rd w w.heap.size 3 A n c (aP l)) (hd:Dt.ak (d:Int) v=true) (G:d<4) (z:Bool) (hz:z=(bA l&&hasB (part l d) v)) :
  Calls Tryz.prog 138 #[.slice A n c,.agg #[.int .i64 d,.int .i64 v]] w fun e w'=>e = .returned (.bool z)∧av w w':=by
 obtain⟨q,V⟩:∃ q:Nat→List (Int×Int),q=fun d:Nat=>if bA l then part l (d:Int)else []:=⟨_,rfl⟩
 have HC:=fun W (h:av w W)=>ah (D_ l n A c W hl hn ((hr.below h).more h.size) (bA l) rfl q V);have H:=JR (rfl:bA l=bA l) hl hn V;have Ny:=ah H.2.1
 have HZ:ai ((ak (q d)&&hasB (q d) v)=z):=by
  unfold ai;rw[Dr (H.1 d G),Bool.true_and,V,hz];dsimp only
  cases bA l <;> rfl
 obtain⟨g,hg⟩:∃ g,g=w.heap.size:=⟨_,rfl⟩;obtain⟨W0,D⟩:∃ W,W=w.alloc (.cells #[.int .i64 d,.int .i64 v] 37):=⟨_,rfl⟩
 have HK:ai (Kept [(⟨g,0,none⟩,.int .i64 d),(⟨g,1,none⟩,.int .i64 v)] w W0):=by
  rw[D,hg];exact (((Kept.nil w).alloc _).af (by go_simp)).af (by go_simp)
 have HG:=ah hg;have N7:=ah D;have HR:=fun W=>ah (Dt.fD d v W);rw[hd]at HR;clear hl hr V hg D hd hz H;go_enter Tryz.func138,Tryz.ntmps138;go_wp2_with fail;rw[← HG.o,← N7.o];refine (HC W0 HK.below).o.mono ?_;rintro e X ⟨s,rfl,HS,U⟩;obtain⟨J,k⟩:∃ W,W=X.alloc (.cells #[.slice (s 0).A (s 0).n (s 0).c,.slice (s 1).A (s 1).n (s 1).c,.slice (s 2).A (s 2).n (s 2).c,.slice (s 3).A (s 3).n (s 3).c] 183):=⟨_,rfl⟩;obtain⟨p,hp⟩:∃ p,p=X.heap.size:=⟨_,rfl⟩;obtain⟨L,t,M,hs⟩:∃ L t M,s d=⟨L,t,M⟩:=⟨_,_,_,rfl⟩
 have f:av X J:=by rw[k];exact Dt.ay _ _ _
 have N:ai (dN J p (fun j=>.slice (s j).A (s j).n (s j).c)):=by rw[k,hp];exact dN.new X _ _ _ _ _ _ rfl
 have u:ai (Kept [(⟨g,0,none⟩,.int .i64 d),(⟨g,1,none⟩,.int .i64 v)] w J):=(HK.later U).later f
 have C:ai ((q d).length=t∧Rd J J.heap.size 2 L t M (aS (q d))):=by
  have:=(HS.o d G).later f;rw[hs]at this;exact this
 have Nz:ai (t≤1000000):=ah (by rw[← C.o.1];have:=Ny.o d;omega)
 have k0:=u.c0;have k1:=u.c1
 have B:ai (∀ W,dN W p (fun j=>.slice (s j).A (s j).n (s j).c)→W.cell? ⟨p,d,none⟩=some (.slice L t M)):=fun W h=>by
  have:=h.cell d G;rw[hs]at this;exact this
 have k2:=B.o J N
 have hdi:(d:Int)<4:=by omega
 have N8:=ah k;have Z:=ah hp;clear U k HC hp hs f HS;go_wp2;rw[← Z.o,← N8.o];refine Rk (S:=fun W=>W.cell? ⟨g,0,none⟩=some (.int .i64 d)∧W.cell? ⟨g,1,none⟩=some (.int .i64 v)∧W.cell? ⟨p,d,none⟩=some (.slice L t M)) (fun hHeld=>?_);refine wpAnyH_take (i:=0) (oi:=⟨some 12,_,_,_,_,_⟩) (v:=?_) rfl (by kernel_rfl) (by kernel_rfl) (by kernel_rfl) (fun _ _ _ h=>h) (Or.inl ⟨by kernel_rfl,?_⟩) (by assumption) ?_;rotate_left
 (intro r a;(try dsimp only at a);go_simp;try with_reducible rfl)
 refine Sm ?_
 refine Tc 1 (fun K R=>?_);go_simp;(go_at_call 163;refine (HR _).o.mono ?_;rintro e w2 ⟨rfl,m⟩;have x:=ah ((u.drew).later m);have O:=ah ((N.later ((bN).drew)).later m);have Q:=ah (And.intro C.1 ((C.2.later ((bN).drew)).later m));clear m);refine Th R ?_ (fun b=>?_);exact⟨x.c0,x.c1,B w2 O⟩;clear R K hHeld;have hHeld:=b;clear b;refine wpAnyH_take (i:=2) (oi:=⟨some 14,_,_,_,_,_⟩) (v:=?_) rfl (by kernel_rfl) (by kernel_rfl) (by kernel_rfl) (fun _ _ _ h=>h) (Or.inl ⟨by kernel_rfl,?_⟩) (by assumption) ?_;rotate_left
 (intro r a;(try dsimp only at a);go_simp;try with_reducible rfl)
 refine Sm ?_
 refine wpAnyH_take (i:=3) (oi:=⟨some 15,_,_,_,_,_⟩) (v:=?_) rfl (by kernel_rfl) (by kernel_rfl) (by kernel_rfl) (fun _ _ _ h=>h) (Or.inl ⟨by kernel_rfl,?_⟩) (by assumption) ?_;rotate_left
 (intro r a;(try dsimp only at a);go_simp;try with_reducible rfl)
 refine Sm ?_
 refine wpAnyH_take (i:=4) (oi:=⟨some 16,_,_,_,_,_⟩) (v:=?_) rfl (by kernel_rfl) (by kernel_rfl) (by kernel_rfl) (fun _ _ _ h=>h) (Or.inl ⟨by kernel_rfl,?_⟩) (by assumption) ?_;rotate_left
 (intro r a;(try dsimp only at a);go_simp;try with_reducible rfl)
 refine Sm ?_
 refine wpAnyH_take (i:=5) (oi:=⟨some 17,_,_,_,_,_⟩) (v:=?_) rfl (by kernel_rfl) (by kernel_rfl) (by kernel_rfl) (fun _ _ _ h=>h) (Or.inl ⟨by kernel_rfl,?_⟩) (by assumption) ?_;rotate_left
 (intro r a;(try dsimp only at a);go_simp;try with_reducible rfl)
 refine Sm ?_
 refine wpAnyH_take (i:=6) (oi:=⟨some 18,_,_,_,_,_⟩) (v:=?_) rfl (by kernel_rfl) (by kernel_rfl) (by kernel_rfl) (fun _ _ _ h=>h) (Or.inl ⟨by kernel_rfl,?_⟩) (by assumption) ?_;rotate_left
 (intro r a;(try dsimp only at a);go_simp;try with_reducible rfl)
 refine Sm ?_
 refine wpAnyH_take (i:=7) (oi:=⟨some 19,_,_,_,_,_⟩) (v:=?_) rfl (by kernel_rfl) (by kernel_rfl) (by kernel_rfl) (fun _ _ _ h=>h) (Or.inl ⟨by kernel_rfl,?_⟩) (by assumption) ?_;rotate_left
 (intro r a;(try dsimp only at a);go_simp;try with_reducible rfl)
 refine Sm ?_
 refine wpAnyH_take (i:=8) (oi:=⟨some 20,_,_,_,_,_⟩) (v:=?_) rfl (by kernel_rfl) (by kernel_rfl) (by kernel_rfl) (fun _ _ _ h=>h) (Or.inl ⟨by kernel_rfl,?_⟩) (by assumption) ?_;rotate_left
 (intro r a;(try dsimp only at a);go_simp;try with_reducible rfl)
 refine Sm ?_
 refine Tc 9 (fun K R=>?_);go_simp
 (have HF:=ah (wD (q d) t L M v w2 Q.1 Nz Q.2);rw[HZ.o]at HF;go_at_call 169;refine HF.mono ?_;rintro e w3 ⟨rfl,F⟩;have y:=ah (x.later F);have Y:=ah (O.later F);clear F)
 refine Th R ?_ (fun b=>?_);exact⟨y.c0,y.c1,B w3 Y⟩;clear R K hHeld;have hHeld:=b;clear b;refine wpAnyH_take (i:=10) (oi:=⟨some 22,_,_,_,_,_⟩) (v:=?_) rfl (by kernel_rfl) (by kernel_rfl) (by kernel_rfl) (fun _ _ _ h=>h) (Or.inl ⟨by kernel_rfl,?_⟩) (by assumption) ?_;rotate_left
 (intro r a;(try dsimp only at a);go_simp;try with_reducible rfl)
 refine Sm ?_
 refine wpAnyH_take (i:=11) (oi:=⟨some 4,_,_,_,_,_⟩) (v:=?_) rfl (by kernel_rfl) (by kernel_rfl) (by kernel_rfl) (fun _ _ _ h=>h) (Or.inl ⟨by kernel_rfl,?_⟩) (by assumption) ?_;rotate_left
 (intro r a;(try dsimp only at a);go_simp;try with_reducible rfl)
 refine Sm ?_
 refine Td ?_;go_wp2;go_ret;exact⟨rfl,y.below⟩
theorem Jt (l:List S3) (n:Nat) (A:Option Addr) (c:Nat) (a v:Int) (w:World) (f:l.length=n) (g:n≤100000) (h:Rd w w.heap.size 3 A n c (aP l)) (z:Bool) (i:fH l a v=z) :
  Calls Tryz.prog 138 #[.slice A n c,.agg #[.int .i64 a,.int .i64 v]] w fun e w'=>e = .returned (.bool z)∧av w w':=by
 subst i
 cases hd:Dt.ak a v with
 | false=>
  unfold fH;rw[hd];exact KV l n A c a v w f g h hd
 | true=>
  obtain⟨d,rfl,b⟩:=FX hd;refine Jv l n A c d v w f g h hd b _ ?_;unfold fH;rw[hd,Bool.true_and]
set_option maxRecDepth 100000 in
set_option maxHeartbeats 2000000 in
theorem Fg (l:List S3) (n:Nat) (A:Option Addr) (c:Nat) (a v:Int) (w:World) (_hl:l.length=n) (_hn:n≤100000) (_hr:Rd w w.heap.size 3 A n c (aP l)) (hd:Dt.ak a v=false) :
  Calls Tryz.prog 39 #[.slice A n c,.agg #[.int .i64 a,.int .i64 v]] w fun e w'=>e = .returned (.bool false)∧av w w':=by
 obtain⟨g,q⟩:∃ g,g=w.heap.size:=⟨_,rfl⟩;obtain⟨x,j⟩:∃ W,W=w.alloc (.cells #[.int .i64 a,.int .i64 v] 37):=⟨_,rfl⟩
 have m:ai (Kept [(⟨g,0,none⟩,.int .i64 a),(⟨g,1,none⟩,.int .i64 v)] w x):=by
  rw[j,q];exact (((Kept.nil w).alloc _).af (by go_simp)).af (by go_simp)
 have u:=ah q;have p:=ah j;have s:=fun W=>ah (Dt.gN a v W);rw[hd]at s;have k0:=m.c0;have k1:=m.c1;clear q j hd;go_enter Tryz.func39,Tryz.ntmps39;go_wp2_with fail;rw[← u.o,← p.o];refine Rk (S:=fun W=>W.cell? ⟨g,0,none⟩=some (.int .i64 a)∧W.cell? ⟨g,1,none⟩=some (.int .i64 v)) (fun hHeld=>?_);refine wpAnyH_take (i:=0) (oi:=⟨some 5,_,_,_,_,_⟩) (v:=?_) rfl (by kernel_rfl) (by kernel_rfl) (by kernel_rfl) (fun _ _ _ h=>h) (Or.inl ⟨by kernel_rfl,?_⟩) (by assumption) ?_;rotate_left
 (intro r b;(try dsimp only at b);go_simp;try with_reducible rfl)
 refine Sm ?_
 refine Tc 1 (fun K t=>?_);go_simp;(go_at_call 80;refine (s _).o.mono ?_;rintro e w2 ⟨rfl,k⟩;have f:=ah ((m.drew).later k);clear k);refine Th t ?_ (fun d=>?_);exact⟨f.c0,f.c1⟩;clear t K hHeld;have hHeld:=d;clear d;refine wpAnyH_take (i:=2) (oi:=⟨some 7,_,_,_,_,_⟩) (v:=?_) rfl (by kernel_rfl) (by kernel_rfl) (by kernel_rfl) (fun _ _ _ h=>h) (Or.inl ⟨by kernel_rfl,?_⟩) (by assumption) ?_;rotate_left
 (intro r b;(try dsimp only at b);go_simp;try with_reducible rfl)
 refine Sm ?_
 refine wpAnyH_take (i:=3) (oi:=⟨some 8,_,_,_,_,_⟩) (v:=undef) rfl (by kernel_rfl) (by kernel_rfl) (by kernel_rfl) (fun _ _ _ h=>h) (Or.inr ⟨by kernel_rfl,rfl⟩) (by assumption) ?_
 refine Sm ?_
 refine wpAnyH_take (i:=4) (oi:=⟨some 9,_,_,_,_,_⟩) (v:=undef) rfl (by kernel_rfl) (by kernel_rfl) (by kernel_rfl) (fun _ _ _ h=>h) (Or.inr ⟨by kernel_rfl,rfl⟩) (by assumption) ?_
 refine Sm ?_
 refine wpAnyH_take (i:=5) (oi:=⟨some 10,_,_,_,_,_⟩) (v:=undef) rfl (by kernel_rfl) (by kernel_rfl) (by kernel_rfl) (fun _ _ _ h=>h) (Or.inr ⟨by kernel_rfl,rfl⟩) (by assumption) ?_
 refine Sm ?_
 refine wpAnyH_take (i:=6) (oi:=⟨some 11,_,_,_,_,_⟩) (v:=undef) rfl (by kernel_rfl) (by kernel_rfl) (by kernel_rfl) (fun _ _ _ h=>h) (Or.inr ⟨by kernel_rfl,rfl⟩) (by assumption) ?_
 refine Sm ?_
 refine wpAnyH_take (i:=7) (oi:=⟨some 12,_,_,_,_,_⟩) (v:=undef) rfl (by kernel_rfl) (by kernel_rfl) (by kernel_rfl) (fun _ _ _ h=>h) (Or.inr ⟨by kernel_rfl,rfl⟩) (by assumption) ?_
 refine Sm ?_
 refine wpAnyH_take (i:=8) (oi:=⟨some 13,_,_,_,_,_⟩) (v:=undef) rfl (by kernel_rfl) (by kernel_rfl) (by kernel_rfl) (fun _ _ _ h=>h) (Or.inr ⟨by kernel_rfl,rfl⟩) (by assumption) ?_
 refine Sm ?_
 refine wpAnyH_take (i:=9) (oi:=⟨some 14,_,_,_,_,_⟩) (v:=undef) rfl (by kernel_rfl) (by kernel_rfl) (by kernel_rfl) (fun _ _ _ h=>h) (Or.inr ⟨by kernel_rfl,rfl⟩) (by assumption) ?_
 refine Sm ?_
 refine wpAnyH_take (i:=10) (oi:=⟨some 15,_,_,_,_,_⟩) (v:=?_) rfl (by kernel_rfl) (by kernel_rfl) (by kernel_rfl) (fun _ _ _ h=>h) (Or.inl ⟨by kernel_rfl,?_⟩) (by assumption) ?_;rotate_left
 (intro r b;(try dsimp only at b);go_simp;try with_reducible rfl)
 refine Sm ?_
 refine wpAnyH_take (i:=11) (oi:=⟨some 4,_,_,_,_,_⟩) (v:=?_) rfl (by kernel_rfl) (by kernel_rfl) (by kernel_rfl) (fun _ _ _ h=>h) (Or.inl ⟨by kernel_rfl,?_⟩) (by assumption) ?_;rotate_left
 (intro r b;(try dsimp only at b);go_simp;try with_reducible rfl)
 refine Sm ?_
 refine Td ?_;go_wp2;go_ret;exact⟨rfl,f.below⟩
set_option maxRecDepth 100000 in
set_option maxHeartbeats 2000000 in
theorem Dn (l:List S3) (n:Nat) (A:Option Addr) (c:Nat) (d:Nat) (v:Int) (w:World) (H:l.length=n) (X:n≤100000) (M:Rd w w.heap.size 3 A n c (aP l)) (hd:Dt.ak (d:Int) v=true) (z:Bool) (N:hasB (part l d) v=z) :
  Calls Tryz.prog 39 #[.slice A n c,.agg #[.int .i64 d,.int .i64 v]] w fun e w'=>e = .returned (.bool z)∧av w w':=by
 obtain⟨g,G⟩:∃ g,g=w.heap.size:=⟨_,rfl⟩;obtain⟨F,p⟩:∃ W,W=w.alloc (.cells #[.int .i64 d,.int .i64 v] 37):=⟨_,rfl⟩
 have r:ai (Kept [(⟨g,0,none⟩,.int .i64 d),(⟨g,1,none⟩,.int .i64 v)] w F):=by
  rw[p,G];exact (((Kept.nil w).alloc _).af (by go_simp)).af (by go_simp)
 have R:=ah G;have D:=ah p;have L:=fun W=>ah (Dt.gN d v W);rw[hd]at L;have U:=ah H;have V:=ah N;have B:ai ((part l d).length≤100000):=aN (iH _ _) (by rw[H];exact X);have C:ai (Rd F F.heap.size 3 A n c (aP l)):=(M.below r.below).more r.below.size;have k0:=r.c0;have k1:=r.c1;clear H M G p hd N;go_enter Tryz.func39,Tryz.ntmps39;go_wp2_with fail;rw[← R.o,← D.o];refine Rk (S:=fun W=>W.cell? ⟨g,0,none⟩=some (.int .i64 d)∧W.cell? ⟨g,1,none⟩=some (.int .i64 v)) (fun hHeld=>?_);refine wpAnyH_take (i:=0) (oi:=⟨some 5,_,_,_,_,_⟩) (v:=?_) rfl (by kernel_rfl) (by kernel_rfl) (by kernel_rfl) (fun _ _ _ h=>h) (Or.inl ⟨by kernel_rfl,?_⟩) (by assumption) ?_
 rotate_left
 (intro k b;(try dsimp only at b);go_simp;try with_reducible rfl)
 refine Sm ?_
 refine Tc 1 (fun K j=>?_);go_simp;(go_at_call 80;refine (L _).o.mono ?_;rintro e Z ⟨rfl,q⟩;have m:=ah ((r.drew).later q);have x:=ah ((C.later ((bN).drew)).later q);clear q);refine Th j ?_ (fun a=>?_);exact⟨m.c0,m.c1⟩;clear j K hHeld;have hHeld:=a;clear a;refine wpAnyH_take (i:=2) (oi:=⟨some 7,_,_,_,_,_⟩) (v:=?_) rfl (by kernel_rfl) (by kernel_rfl) (by kernel_rfl) (fun _ _ _ h=>h) (Or.inl ⟨by kernel_rfl,?_⟩) (by assumption) ?_;rotate_left
 (intro k b;(try dsimp only at b);go_simp;try with_reducible rfl)
 refine Sm ?_
 refine wpAnyH_take (i:=3) (oi:=⟨some 8,_,_,_,_,_⟩) (v:=?_) rfl (by kernel_rfl) (by kernel_rfl) (by kernel_rfl) (fun _ _ _ h=>h) (Or.inl ⟨by kernel_rfl,?_⟩) (by assumption) ?_;rotate_left
 (intro k b;(try dsimp only at b);go_simp;try with_reducible rfl)
 refine Sm ?_
 refine wpAnyH_take (i:=4) (oi:=⟨some 9,_,_,_,_,_⟩) (v:=?_) rfl (by kernel_rfl) (by kernel_rfl) (by kernel_rfl) (fun _ _ _ h=>h) (Or.inl ⟨by kernel_rfl,?_⟩) (by assumption) ?_;rotate_left
 (intro k b;(try dsimp only at b);go_simp;try with_reducible rfl)
 refine Sm ?_
 refine wpAnyH_take (i:=5) (oi:=⟨some 10,_,_,_,_,_⟩) (v:=?_) rfl (by kernel_rfl) (by kernel_rfl) (by kernel_rfl) (fun _ _ _ h=>h) (Or.inl ⟨by kernel_rfl,?_⟩) (by assumption) ?_;rotate_left
 (intro k b;(try dsimp only at b);go_simp;try with_reducible rfl)
 refine Sm ?_
 refine wpAnyH_take (i:=7) (oi:=⟨some 12,_,_,_,_,_⟩) (v:=?_) rfl (by kernel_rfl) (by kernel_rfl) (by kernel_rfl) (fun _ _ _ h=>h) (Or.inl ⟨by kernel_rfl,?_⟩) (by assumption) ?_;rotate_left
 (intro k b;(try dsimp only at b);go_simp;try with_reducible rfl)
 refine Sm ?_
 refine wpAnyH_take (i:=8) (oi:=⟨some 13,_,_,_,_,_⟩) (v:=?_) rfl (by kernel_rfl) (by kernel_rfl) (by kernel_rfl) (fun _ _ _ h=>h) (Or.inl ⟨by kernel_rfl,?_⟩) (by assumption) ?_;rotate_left
 (intro k b;(try dsimp only at b);go_simp;try with_reducible rfl)
 refine Sm ?_
 refine Tc 6 (fun K j=>?_);go_simp
 (have Q:=ah (xK l n A c d Z U (by omega) x);go_at_call 82;refine Q.mono ?_;rintro e w3 ⟨O,Y,c3,rfl,s,u,t⟩;have f:=ah (m.later t);have y:=ah u.rd;clear t u)
 refine Th j ?_ (fun a=>?_);exact⟨f.c0,f.c1⟩;clear j K hHeld;have hHeld:=a;clear a;refine Tc 9 (fun K j=>?_);go_simp
 (have J:=ah (rJ (part l d) Y O c3 w3 s (by have:=s.o;have:=B.o;omega) y v);rw[V.o]at J;go_at_call 81;refine J.mono ?_;rintro e w4 ⟨rfl,rfl⟩)
 refine Th j ?_ (fun a=>?_);exact⟨f.c0,f.c1⟩;clear j K hHeld;have hHeld:=a;clear a;refine wpAnyH_take (i:=10) (oi:=⟨some 15,_,_,_,_,_⟩) (v:=?_) rfl (by kernel_rfl) (by kernel_rfl) (by kernel_rfl) (fun _ _ _ h=>h) (Or.inl ⟨by kernel_rfl,?_⟩) (by assumption) ?_;rotate_left
 (intro k b;(try dsimp only at b);go_simp;try with_reducible rfl)
 refine Sm ?_
 refine wpAnyH_take (i:=11) (oi:=⟨some 4,_,_,_,_,_⟩) (v:=?_) rfl (by kernel_rfl) (by kernel_rfl) (by kernel_rfl) (fun _ _ _ h=>h) (Or.inl ⟨by kernel_rfl,?_⟩) (by assumption) ?_;rotate_left
 (intro k b;(try dsimp only at b);go_simp;try with_reducible rfl)
 refine Sm ?_
 refine Td ?_;go_wp2;go_ret;exact⟨rfl,f.below⟩
theorem iK (l:List S3) (n:Nat) (A:Option Addr) (c:Nat) (a v:Int) (w:World) (b:l.length=n) (f:n≤100000) (g:Rd w w.heap.size 3 A n c (aP l)) (h:bA l=true) (z:Bool) (i:fH l a v=z) :
  Calls Tryz.prog 39 #[.slice A n c,.agg #[.int .i64 a,.int .i64 v]] w fun e w'=>e = .returned (.bool z)∧av w w':=by
 subst i
 cases hd:Dt.ak a v with
 | false=>
  unfold fH;rw[hd];exact Fg l n A c a v w b f g hd
 | true=>
  obtain⟨d,rfl,hd4⟩:=FX hd;refine Dn l n A c d v w b f g hd _ ?_;unfold fH;rw[hd,h,Bool.true_and,Bool.true_and]
end Cx
namespace Cx
open Sp Rw
set_option maxRecDepth 100000
end Cx
namespace Cs
open Tr Cx Sp Rw Classical
end Cs
namespace Tr
open Rw Sp
structure vT (w:World) (base:Nat) (A:Option Addr) (n c:Nat) (ls:List Lf) (lr:List (SV×E)):Prop where
 len:ls.length=n
 own:Own w base 109 5 A n c (lr.flatMap lQ)
 paths:dh w (fun b=>b<base) ls lr
namespace vT
variable {w w':World} {base n c m d:Nat} {A B:Option Addr} {ls ls2:List Lf} {lr lr2:List (SV×E)}
theorem nil (w:World) (base:Nat):vT w base none 0 0 [] []:=⟨rfl,⟨iy _ _ _ _,by simp⟩,dh.nil _ _⟩
theorem rd (h:vT w base A n c ls lr) (b:base≤w.heap.size):mh w w.heap.size A n c ls:=⟨h.len,lr,h.own.rd,h.paths.mono fun _ a _=>cO a b⟩
theorem later (h:vT w base A n c ls lr) (_:base≤w.heap.size) (a:av w w'):vT w' base A n c ls lr:=⟨h.len,aG h.own a,h.paths.later a⟩
theorem hold (h:vT w base A n c ls lr) (s:∀ b,(Value.slice A n c).ownBlock=some b→w'.heap[b]?=w.heap[b]?) (k:Below base w w'):vT w' base A n c ls lr:=by
 refine⟨h.len,⟨?_,h.own.one⟩,h.paths.keep k.size fun b j _=>k.block b j⟩;obtain⟨l,i⟩:=h.own.row;refine⟨l,?_⟩
 rcases i with i | ⟨g,a,f,e,p,q,r⟩
 ·exact .inl i
 ·refine .inr ⟨g,a,f,e,p,?_,r⟩
  rw[s g (by rw[e];rfl)];exact q
def Apart (u v:Value):Prop:=∀ b,u.ownBlock=some b→v.ownBlock≠some b
theorem push (h:vT w base A n c ls lr) (L:vT w base B m d ls2 lr2) (t:Apart (.slice A n c) (.slice B m d)) (V:base≤w.heap.size) {p:List ByteArray} {e:E} {s:SV} (X:p.length=s.n) (Z:RX w (fun b=>b<base) 1 s.A s.n s.c (strs p)) (hn:n≤800000) :
  ∃ A' c' w',(Builtin.append_ #[106,106] 106 #[.slice A n c,.slice (some ⟨w.heap.size,0,none⟩) 1 1]).run Tryz.prog (w.alloc (.cells #[.slice s.A s.n s.c,.int .i64 e.a,.int .i64 e.n,.string e.s,.int .i64 e.v] 109)) = .ok (.slice A' (n+1) c') w' ∧
   vT w' base A' (n+1) c' (ls++[(p,e)]) (lr++[(s,e)])∧vT w' base B m d ls2 lr2∧Apart (.slice A' (n+1) c') (.slice B m d)∧Apart (.slice B m d) (.slice A' (n+1) c')∧Below base w w':=by
 obtain⟨i0,y,F,G,H⟩:=dO Cq;have i:av w (w.alloc (.cells #[.slice s.A s.n s.c,.int .i64 e.a,.int .i64 e.n,.string e.s,.int .i64 e.v] 109)):=(bN).alloc (bG) _
 have hsz:(w.alloc (.cells #[.slice s.A s.n s.c,.int .i64 e.a,.int .i64 e.n,.string e.s,.int .i64 e.v] 109)).heap.size=w.heap.size+1:=by simp
 obtain⟨v',w',r1,O,Q,q⟩:=iq (P:=Tryz.prog) (w.alloc (.cells #[.slice s.A s.n s.c,.int .i64 e.a,.int .i64 e.n,.string e.s,.int .i64 e.v] 109)) base 106 106 109 i0 _ 5 64 Tryz.underlying106 y F G H rfl (by omega) (aG h.own i).row (Bu w s e _) (by omega) (by omega) (by omega)
 have S:(lr++[(s,e)]).flatMap lQ=lr.flatMap lQ++[(s,e)].flatMap lQ:=by simp
 rw[← S]at O
 obtain⟨A',c',rfl,Y⟩:=Own.gX O (fun u hu=>by
  obtain⟨x,_,hu⟩:=ol.1 hu
  exact uG x u hu)
 have g:Below base w w':=(i.mono V).trans ((Below.refl base _).grown Q (by omega) (fun k W=>(h.own.row.lt k W).1));have D:dh w' (fun b=>b<base) (ls++[(p,e)]) (lr++[(s,e)]):=dh.keep (dh.app h.paths (dh.one X Z)) g.size fun b C _=>g.block b C;have M:∀ b,(Value.slice B m d).ownBlock=some b→(Value.slice A n c).ownBlock≠some b∧b<w.heap.size:=fun b f=>⟨fun U=>t b U f,(L.own.row.lt b f).2⟩
 have z:∀ b,(Value.slice B m d).ownBlock=some b→w'.heap[b]?=w.heap[b]?:=fun b f=>by
  obtain⟨J,R⟩:=M b f;rw[Q.block b (by omega) (fun e=>J e.symm)];exact i.block b R
 have l:∀ b,(Value.slice B m d).ownBlock=some b→(Value.slice A' (n+1) c').ownBlock≠some b:=fun b f N=>by
  obtain⟨J,R⟩:=M b f
  rcases q with q | q
  ·exact J (q.symm.trans N)
  ·have j:some b=some _:=N.symm.trans q
   injection j with j;omega
 exact⟨A',c',w',r1,⟨by rw[bP,h.len];rfl,Y,D⟩,L.hold z g,fun b j r=>l b r j,fun b j r=>l b j r,g⟩
end vT
end Tr
namespace Cs
open Tr Sp Rw
end Cs
end
section
open Go.RowKit Go.Shelf
namespace Tr
open Sp Rw
attribute [local go_sem] Oper.semAt_some
def iA (len:Nat) (ys:List {i:Nat // i<len}):Prop:=ys.map Subtype.val=upto (fun j=>len-1-j) ys.length
theorem iA.snoc {len:Nat} {ys:List {i:Nat // i<len}} {x:{i:Nat // i<len}} (h:iA len ys) (a:x.1=len-1-ys.length):iA len (ys++[x]):=by
 unfold iA at h ⊢;rw[mD,h,bP];show _=upto _ (ys.length+1);rw[og];show _++[x.1]=_;rw[a]
theorem iA.pre {len:Nat} {ys:List {i:Nat // i<len}} {x:{i:Nat // i<len}} (h:iA len (ys++[x])):iA len ys∧x.1=len-1-ys.length:=by
 unfold iA at h ⊢;rw[mD,bP]at h;have a:ys.map Subtype.val++[x.1]=upto (fun j=>len-1-j) (ys.length+1):=h;rw[og]at a;obtain⟨b,c⟩:=List.append_inj' a rfl;exact⟨b,by simpa using c⟩
set_option maxRecDepth 100000 in
set_option maxHeartbeats 2000000 in
theorem A8 (F:Fence) (n:Nat) (O:F.fn 104) (G:F.round=none) (hn:1≤n) (l u n₀ len cap:Nat) (A:Option Addr) (f:Nat→ByteArray) (hreach:len≤1000000) (J H:List {i:Nat // i<len} → World→Prop)
  (R:∀ pre x W,J pre W→pre.length<len→YieldAt F (n-1) Tryz.prog l #[.int .i64 (x.1:Int),.string (f x.1)] W fun e j=>
   (e = .returned (.bool true)∧J (pre++[x]) j∧K7 n₀ u W j)∨(e = .returned (.bool false)∧H (pre++[x]) j))
  (W:World) (y:W.cell? ⟨u,0,none⟩=some (.slice A len cap)) (L:fG n₀ W A len f) (N:J [] W) :
  CallsIn F n Tryz.prog 104 #[.func (.yield l) #[] #[],.pointer (some ⟨u,0,none⟩)] W fun e j=>(∃ v,e = .returned v) ∧
   ((∃ ys,(iA len ys∧ys.length=len)∧J ys j)∨(∃ pre,iA len pre∧H pre j)):=by
 have M:=ah L
 have hw0:IntKind.i64.wrap ((len:Int)-1)=(len:Int)-1:=by rw[iN];omega
 have g:=y;clear L;refine callsIn_of_wp Tryz.func104 rfl O ?_ G;simp only[Tryz.ntmps104,List.size_toArray,lY,List.length_nil,Nat.reduceAdd,Nat.reduceSub,Array.replicate_succ,Array.replicate_zero,List.push_toArray,List.append_toArray,List.nil_append,List.cons_append]
 gi_wp2
 gi_loopw [3] (fun i wr=>∃ (k:Nat) (ys:List {i:Nat // i<len}),k≤len∧i = .int .i64 ((len:Int)-1-k)∧ai (iA len ys∧ys.length=k)∧ai (J ys wr)∧ai (K7 n₀ u W wr))
  (fun i _=>(intOf i+1).toNat)
 case atStart=>exact⟨0,[],Nat.zero_le _,by simp,⟨rfl,rfl⟩,N,bN,rfl⟩
 case round=>
  obtain⟨k,ys,hk,rfl,a,r,t⟩:=hrel;have q:=r.o;have h:=t.o
  by_cases D:k<len
  ·obtain⟨m,S⟩:∃ m:Nat,m+k+1=len:=⟨len-1-k,by omega⟩
   have c:(len:Int)-1-k=(m:Int):=by omega
   have s:len-1-k=m:=by omega
   obtain⟨b,o,rfl,hb,hcx⟩:=(M.below h.1) m (by omega);have hbx:=h.2.trans g;rw[c];have f1:decide ((0:Int)≤(m:Int))=true:=aJ (by omega)
   have hml:(m:Int)<(len:Int):=by omega
   have hwm:IntKind.i64.wrap ((m:Int)-1)=(m:Int)-1:=by rw[iN];omega
   have w:=ah c
   have d:m<len:=by omega
   obtain⟨fn,tmps,assign,body,U,Q⟩:=R _ ⟨m,d⟩ wr q (by rw[a.o.2];exact D);dsimp only at U;have p:ai (iA len (ys++[⟨m,d⟩])∧(ys++[(⟨m,d⟩:{i:Nat // i<len})]).length=k+1):=⟨a.1.snoc (by rw[a.o.2];exact s.symm),by rw[bP,a.o.2];rfl⟩;clear c s S
   gi_wp2
   refine Q.mono ?_;rintro e W3 (⟨rfl,z,B⟩ | ⟨rfl,hJx3⟩)
   ·have C:=Gi h B
    gi_wp2
    go_roundw
    case rel=>exact⟨k+1,_,by omega,by have:=w.o;first | rfl | (refine congrArg _ ?_;omega) | (simp;omega),p,z,C⟩
    case measure=>simp[intOf]
   ·gi_wp2
    refine bodyPost_ret (results_none rfl _ _ _) rfl ?_;exact⟨⟨_,rfl⟩,.inr ⟨_,p.1,hJx3⟩⟩
  ·obtain rfl:k=len:=by omega
   have c:(k:Int)-1-k = -1:=by omega
   rw[c]
   gi_wp2
   go_end0
   exact⟨⟨_,rfl⟩,.inl ⟨_,a,q⟩⟩
theorem vV (F:Fence) (n:Nat) (k:F.fn 104) (e:F.round=none) (s:1≤n) (b n₀ len cap:Nat) (A:Option Addr) (f:Nat→ByteArray) (a:len≤1000000) (w:World) (c:b<w.heap.size) (d:n₀≤w.heap.size)
  (r:w.cell? ⟨b,0,none⟩=some (.slice A len cap)) (m:fG n₀ w A len f) :
  SeqStopsK F n Tryz.prog 104 #[.pointer (some ⟨b,0,none⟩)] (fun x:{i:Nat // i<len}=>#[Value.int .i64 (x.1:Int),Value.string (f x.1)]) (K7 n₀ b) (fun ys=>iA len ys∧ys.length=len) (fun pre=>iA len pre) len w:=fun l J h W g _ _ q j=>
 A8 F n k e s l b n₀ len cap A f a J h q W ((g.cell (p:=⟨b,0,none⟩) c).trans r) (m.below (g.mono d)) j
end Tr
end
end Go.Proofs.YtgeafpaognhokaaGreat
