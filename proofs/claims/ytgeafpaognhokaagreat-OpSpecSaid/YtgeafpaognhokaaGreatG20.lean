/- Texts of the lower layers, and of layer 9, put together. -/
import Derived.Test.YtgeafpaognhokaaGreatG00
import Derived.Test.YtgeafpaognhokaaGreatCauHas
import Derived.Test.YtgeafpaognhokaaGreatTreeLeaves
import Derived.Test.YtgeafpaognhokaaGreatG10
import Derived.Test.YtgeafpaognhokaaGreatTreeRefRight
namespace Go.Proofs.YtgeafpaognhokaaGreat
set_option maxRecDepth 100000
set_option maxHeartbeats 4000000
section
open ChangeShapes WideShapes ChangeAt RowKit
namespace Cs
open Tr Cx Sp Rw
theorem IX (w:World) (a b:Int) (xs:ByteArray) (c d e:Int) (ys:ByteArray) (f:Int):∃ (W:World) (p y r:Nat),ai (W=((w.alloc (.cells #[.int .i64 a,.int .i64 b,.string xs,.int .i64 c] 97)).alloc (.cells #[.int .i64 d,.int .i64 e,.string ys,.int .i64 f] 97)).alloc (.cells #[.int .i64 0,.int .i64 0,.string ⟨#[]⟩,.int .i64 0] 97))∧ai (p=w.heap.size)∧ai (y=p+1)∧ai (r=p+1+1)∧ai (Kept [(⟨p,0,none⟩,.int .i64 a),(⟨p,1,none⟩,.int .i64 b),(⟨p,2,none⟩,.string xs),(⟨p,3,none⟩,.int .i64 c),(⟨y,0,none⟩,.int .i64 d),(⟨y,1,none⟩,.int .i64 e),(⟨y,2,none⟩,.string ys),(⟨y,3,none⟩,.int .i64 f),(⟨r,0,none⟩,.int .i64 0),(⟨r,1,none⟩,.int .i64 0),(⟨r,2,none⟩,.string ⟨#[]⟩),(⟨r,3,none⟩,.int .i64 0)] w W)∧ai (aA r W):=by
 refine⟨_,_,_,_,rfl,rfl,rfl,rfl,?_,⟨by simp,fun j=>by go_simp⟩⟩;have g:=Kept.a_ (gH w #[.int .i64 a,.int .i64 b,.string xs,.int .i64 c] #[.int .i64 d,.int .i64 e,.string ys,.int .i64 f] #[.int .i64 0,.int .i64 0,.string ⟨#[]⟩,.int .i64 0] 97 97 97)
 refine (((((((((((g.af ?_).af ?_).af ?_).af ?_).af ?_).af ?_).af ?_).af ?_).af ?_).af ?_).af ?_).af ?_ <;> go_simp
def vC (o:Option E) (w:World) (e:Ending) (w':World):Prop:=∃ z:E,e = .returned (.tuple #[yN z,.bool o.isSome])∧(∀ y,o=some y→z=y)∧av w w'
theorem yh (x:List S3) (u:Option Addr) (s g:Nat) (Z q:Nat) (d f:Int) (xs:ByteArray) (i:Int) (w:World) (U:x.length=s) (hn:s≤100000) (G:w.cell? ⟨q,2,none⟩=some (.slice u s g)) (V:Rd w w.heap.size 3 u s g (aP x)) (Q:aH x) :
  Calls Tryz.prog 180 #[.agg #[.int .i64 d,.int .i64 f,.string xs,.int .i64 i],.agg #[.int .i64 0,.int .i64 0,.string ⟨#[]⟩,.int .i64 0],.pointer (some ⟨q,0,none⟩),.pointer (some ⟨Z,0,none⟩)] w (vC (if aD x d f=true then none else some (⟨d,f,xs,i⟩:E)) w):=by
 obtain⟨A,t⟩:∃ z,aD x d f=z:=⟨_,rfl⟩;rw[t]
 obtain⟨o9,k⟩:∃ o,(if A=true then none else some (⟨d,f,xs,i⟩:E))=o:=⟨_,rfl⟩
 rw[k];have X:=ah k
 have J:ai (o9.isSome = !A):=ah (by rw[← k];cases A <;> rfl)
 clear k
 have B:ai (∀ W,av w W→Calls Tryz.prog 181 #[.slice u s g,.agg #[.int .i64 d,.int .i64 f]] W fun e w'=>e = .returned (.bool A)∧av W w'):=fun W R=>by
  rw[← t];exact wD x s u g d f W U (by omega) ((V.below R).more R.size) Q
 clear U V Q t

 obtain⟨W,p,y,r,Y,L,N,j,n,m⟩:=IX w d f xs i 0 0 ⟨#[]⟩ 0
 have l:w.heap.size≤r:=by have:=L.o;have:=j.o;omega
 have e1:¬p=r:=by have:=j.o;omega
 have e2:¬r=p:=by omega
 have e3:¬y=r:=by have:=j.o;have:=N.o;omega
 have e4:¬r=y:=by omega
 have e5:¬p=y:=by have:=N.o;omega
 have e6:¬y=p:=by omega
 have O:q<w.heap.size:=aL w _ G
 have hbp:¬q=r:=by have:=L.o;omega
 have hbp2:¬r=q:=by omega
 have G:=(n.below.cell (p:=⟨q,2,none⟩) O).trans G;obtain⟨k0,k1,k2,k3,k4,k5,k6,k7,-⟩:=n.cj
 have a:ai (Kept [(⟨p,0,none⟩,.int .i64 d),(⟨p,1,none⟩,.int .i64 f),(⟨p,2,none⟩,.string xs),(⟨p,3,none⟩,.int .i64 i),(⟨q,2,none⟩,.slice u s g),(⟨r,0,none⟩,.int .i64 0),(⟨r,1,none⟩,.int .i64 0),(⟨r,2,none⟩,.string ⟨#[]⟩),(⟨r,3,none⟩,.int .i64 0)] w W.drew):=by
  have h0:=((Kept.a_ n.below).af n.t8.c3).af n.t8.c2;have h1:=(h0.af n.t8.c1).af n.t8.c0;exact (((((h1.af G).af k3).af k2).af k1).af k0).drew
 have m:=ah (m.drew);clear n;go_enter Tryz.func180,Tryz.ntmps180;go_wp2_with fail;rw[← L.o,← Y.o,← j.o]
 try rw[← N.o]
 go_wp2_with fail;refine Rk (S:=fun W=>W.cell? ⟨p,0,none⟩=some (.int .i64 d)∧W.cell? ⟨p,1,none⟩=some (.int .i64 f)∧W.cell? ⟨p,2,none⟩=some (.string xs)∧W.cell? ⟨p,3,none⟩=some (.int .i64 i)∧W.cell? ⟨q,2,none⟩=some (.slice u s g)) (fun hHeld=>?_);refine T4 0 12 1 13 2 14 3 15 ?_;refine Tk 4 16 ?_;refine Tc 5 (fun K D=>?_);go_simp;(go_at_call 181;refine (B.o W.drew a.below).mono ?_);rintro e v1 ⟨rfl,F⟩;obtain⟨a,m⟩:=gI F a m;clear F;have z0:=a.tail.tail.tail.tail.tail.c0;have z1:=a.tail.tail.tail.tail.tail.c1;have z2:=a.tail.tail.tail.tail.tail.c2;have z3:=a.tail.tail.tail.tail.tail.c3;have m0:=m.2 0;have m1:=m.2 1;have m2:=m.2 2;have m3:=m.2 3
 obtain⟨C,b⟩:∃ W,W=(((v1.setCell ⟨r,0,none⟩ (.int .i64 d)).setCell ⟨r,1,none⟩ (.int .i64 f)).setCell ⟨r,2,none⟩ (.string xs)).setCell ⟨r,3,none⟩ (.int .i64 i):=⟨_,rfl⟩
 have H:ai (av w C):=by
  unfold ai;rw[b];exact (((a.below.setCell (p:=⟨r,0,none⟩) l _).setCell (p:=⟨r,1,none⟩) l _).setCell (p:=⟨r,2,none⟩) l _).setCell (p:=⟨r,3,none⟩) l _
 have l0:C.cell? ⟨r,0,none⟩=some (.int .i64 d):=by rw[b];go_simp
 have l1:C.cell? ⟨r,1,none⟩=some (.int .i64 f):=by rw[b];go_simp
 have l2:C.cell? ⟨r,2,none⟩=some (.string xs):=by rw[b];go_simp
 have l3:C.cell? ⟨r,3,none⟩=some (.int .i64 i):=by rw[b];go_simp
 have M:=ah b;clear b;clear hHeld;refine Th D ?_ (fun hHeld=>?_)
 ·exact⟨a.c0,a.c1,a.c2,a.c3,a.c4⟩
 clear D K;refine Tk 6 18 ?_;refine Tc 7 (fun K D=>?_);go_simp;refine Th D ?_ (fun c=>?_)
 ·(try dsimp only);go_keep
 clear D K hHeld;have hHeld:=c;clear c;refine Tk 8 7 ?_;refine Td ?_;clear hHeld;go_wp2_with fail;rw[← M.o]
 refine bodyPost_ret (v:=.tuple #[.agg #[.int .i64 d,.int .i64 f,.string xs,.int .i64 i],.bool (!A)]) (by simp[results,Tryz.results180,go_sem,l0,l1,l2,l3]) rfl ⟨⟨d,f,xs,i⟩,by rw[J.o],fun y h=>by have h2:=X.o;rw[h]at h2;cases A <;> simp_all,H⟩
theorem vP (x:List S3) (u:Option Addr) (s g:Nat) (q bb:Nat) (f b:Int) (ys:ByteArray) (i:Int) (w:World) (V:x.length=s) (hn:s≤100000) (G:w.cell? ⟨q,2,none⟩=some (.slice u s g)) (X:Rd w w.heap.size 3 u s g (aP x)) (R:aH x) (Q:1≤b) :
  Calls Tryz.prog 180 #[.agg #[.int .i64 0,.int .i64 0,.string ⟨#[]⟩,.int .i64 0],.agg #[.int .i64 f,.int .i64 b,.string ys,.int .i64 i],.pointer (some ⟨bb,0,none⟩),.pointer (some ⟨q,0,none⟩)] w (vC (if aD x f b=true then none else some (⟨f,b,ys,i⟩:E)) w):=by
 obtain⟨A,t⟩:∃ z,aD x f b=z:=⟨_,rfl⟩;rw[t]
 obtain⟨o9,k⟩:∃ o,(if A=true then none else some (⟨f,b,ys,i⟩:E))=o:=⟨_,rfl⟩
 rw[k];have Y:=ah k
 have J:ai (o9.isSome = !A):=ah (by rw[← k];cases A <;> rfl)
 clear k
 have B:ai (∀ W,av w W→Calls Tryz.prog 181 #[.slice u s g,.agg #[.int .i64 f,.int .i64 b]] W fun e w'=>e = .returned (.bool A)∧av W w'):=fun W U=>by
  rw[← t];exact wD x s u g f b W V (by omega) ((X.below U).more U.size) R
 clear V X R t
 have fy:(b==0)=false:=by rw[gP];omega
 obtain⟨W,p,y,r,Z,L,N,j,n,m⟩:=IX w 0 0 ⟨#[]⟩ 0 f b ys i
 have l:w.heap.size≤r:=by have:=L.o;have:=j.o;omega
 have e1:¬p=r:=by have:=j.o;omega
 have e2:¬r=p:=by omega
 have e3:¬y=r:=by have:=j.o;have:=N.o;omega
 have e4:¬r=y:=by omega
 have e5:¬p=y:=by have:=N.o;omega
 have e6:¬y=p:=by omega
 have O:q<w.heap.size:=aL w _ G
 have hbp:¬q=r:=by have:=L.o;omega
 have hbp2:¬r=q:=by omega
 have G:=(n.below.cell (p:=⟨q,2,none⟩) O).trans G;obtain⟨k0,k1,k2,k3,k4,k5,k6,k7,-⟩:=n.cj
 have a:ai (Kept [(⟨y,0,none⟩,.int .i64 f),(⟨y,1,none⟩,.int .i64 b),(⟨y,2,none⟩,.string ys),(⟨y,3,none⟩,.int .i64 i),(⟨q,2,none⟩,.slice u s g),(⟨r,0,none⟩,.int .i64 0),(⟨r,1,none⟩,.int .i64 0),(⟨r,2,none⟩,.string ⟨#[]⟩),(⟨r,3,none⟩,.int .i64 0)] w W.drew):=by
  have h0:=((Kept.a_ n.below).af n.t8.c3).af n.t8.c2;have Q:=(h0.af n.t8.c1).af n.t8.c0;exact (((((Q.af G).af k7).af k6).af k5).af k4).drew
 have m:=ah (m.drew);clear n;go_enter Tryz.func180,Tryz.ntmps180;go_wp2_with fail;rw[← L.o,← Z.o,← j.o]
 try rw[← N.o]
 go_wp2_with fail;refine Rk (S:=fun W=>W.cell? ⟨y,0,none⟩=some (.int .i64 f)∧W.cell? ⟨y,1,none⟩=some (.int .i64 b)∧W.cell? ⟨y,2,none⟩=some (.string ys)∧W.cell? ⟨y,3,none⟩=some (.int .i64 i)∧W.cell? ⟨q,2,none⟩=some (.slice u s g)) (fun hHeld=>?_);refine T4 0 23 1 24 2 25 3 26 ?_;refine Tk 4 27 ?_;refine Tc 5 (fun K D=>?_);go_simp;(go_at_call 181;refine (B.o W.drew a.below).mono ?_);rintro e v1 ⟨rfl,F⟩;obtain⟨a,m⟩:=gI F a m;clear F;have z0:=a.tail.tail.tail.tail.tail.c0;have z1:=a.tail.tail.tail.tail.tail.c1;have z2:=a.tail.tail.tail.tail.tail.c2;have z3:=a.tail.tail.tail.tail.tail.c3;have m0:=m.2 0;have m1:=m.2 1;have m2:=m.2 2;have m3:=m.2 3
 obtain⟨C,c⟩:∃ W,W=(((v1.setCell ⟨r,0,none⟩ (.int .i64 f)).setCell ⟨r,1,none⟩ (.int .i64 b)).setCell ⟨r,2,none⟩ (.string ys)).setCell ⟨r,3,none⟩ (.int .i64 i):=⟨_,rfl⟩
 have H:ai (av w C):=by
  unfold ai;rw[c];exact (((a.below.setCell (p:=⟨r,0,none⟩) l _).setCell (p:=⟨r,1,none⟩) l _).setCell (p:=⟨r,2,none⟩) l _).setCell (p:=⟨r,3,none⟩) l _
 have l0:C.cell? ⟨r,0,none⟩=some (.int .i64 f):=by rw[c];go_simp
 have l1:C.cell? ⟨r,1,none⟩=some (.int .i64 b):=by rw[c];go_simp
 have l2:C.cell? ⟨r,2,none⟩=some (.string ys):=by rw[c];go_simp
 have l3:C.cell? ⟨r,3,none⟩=some (.int .i64 i):=by rw[c];go_simp
 have M:=ah c;clear c;clear hHeld;refine Th D ?_ (fun hHeld=>?_)
 ·exact⟨a.c0,a.c1,a.c2,a.c3,a.c4⟩
 clear D K;refine Tk 6 29 ?_;refine Tc 7 (fun K D=>?_);go_simp;refine Th D ?_ (fun d=>?_)
 ·(try dsimp only);go_keep
 clear D K hHeld;have hHeld:=d;clear d;refine Tk 8 7 ?_;refine Td ?_;clear hHeld;go_wp2_with fail;rw[← M.o]
 refine bodyPost_ret (v:=.tuple #[.agg #[.int .i64 f,.int .i64 b,.string ys,.int .i64 i],.bool (!A)]) (by simp[results,Tryz.results180,go_sem,l0,l1,l2,l3]) rfl ⟨⟨f,b,ys,i⟩,by rw[J.o],fun y h=>by have h2:=Y.o;rw[h]at h2;cases A <;> simp_all,H⟩
theorem F8 (L M:Nat) (j d:Int) (xs:ByteArray) (k:Int) (l f:Int) (ys:ByteArray) (m:Int) (w:World) (h1:1≤d) (h2:1≤f) :
  Calls Tryz.prog 180 #[.agg #[.int .i64 j,.int .i64 d,.string xs,.int .i64 k],.agg #[.int .i64 l,.int .i64 f,.string ys,.int .i64 m],.pointer (some ⟨M,0,none⟩),.pointer (some ⟨L,0,none⟩)] w (vC (some (sF ⟨j,d,xs,k⟩ ⟨l,f,ys,m⟩)) w):=by
 obtain⟨z,D⟩:∃ z,sF ⟨j,d,xs,k⟩ ⟨l,f,ys,m⟩=z:=⟨_,rfl⟩
 have H:ai (∀ W,Calls Tryz.prog 182 #[.agg #[.int .i64 j,.int .i64 d,.string xs,.int .i64 k],.agg #[.int .i64 l,.int .i64 f,.string ys,.int .i64 m]] W fun e w'=>e = .returned (yN z)∧av W w'):=fun W=>by
  rw[← D];exact Co ⟨j,d,xs,k⟩ ⟨l,f,ys,m⟩ W
 rw[D];clear D;obtain⟨s,t,u,x⟩:=z
 have fx:(d==0)=false:=by rw[gP];omega
 have fy:(f==0)=false:=by rw[gP];omega
 obtain⟨W,p,y,r,J,G,C,b,F,i⟩:=IX w j d xs k l f ys m
 have c:w.heap.size≤r:=by have:=G.o;have:=b.o;omega
 have e1:¬p=r:=by have:=b.o;omega
 have e2:¬r=p:=by omega
 have e3:¬y=r:=by have:=b.o;have:=C.o;omega
 have e4:¬r=y:=by omega
 have e5:¬p=y:=by have:=C.o;omega
 have e6:¬y=p:=by omega
 obtain⟨N,O,Q,R,S,U,V,X,-⟩:=F.cj;go_enter Tryz.func180,Tryz.ntmps180;go_wp2_with fail;rw[← G.o,← J.o,← b.o]
 try rw[← C.o]
 go_wp2_with fail;refine (H.o W).mono ?_;rintro e v1 ⟨rfl,g⟩;have n:=ah (F.t8.later g);have i:=ah (i.later g);clear g N O Q R S U V X;obtain⟨z0,z1,z2,z3,-⟩:=n.cj;have m0:=i.2 0;have m1:=i.2 1;have m2:=i.2 2;have m3:=i.2 3;obtain⟨q,a⟩:∃ W,W=(((v1.setCell ⟨r,0,none⟩ (.int .i64 s)).setCell ⟨r,1,none⟩ (.int .i64 t)).setCell ⟨r,2,none⟩ (.string u)).setCell ⟨r,3,none⟩ (.int .i64 x):=⟨_,rfl⟩
 have A:ai (av w q):=by
  unfold ai;rw[a];exact (((n.below.setCell (p:=⟨r,0,none⟩) c _).setCell (p:=⟨r,1,none⟩) c _).setCell (p:=⟨r,2,none⟩) c _).setCell (p:=⟨r,3,none⟩) c _
 have Y:q.cell? ⟨r,0,none⟩=some (.int .i64 s):=by rw[a];go_simp
 have Z:q.cell? ⟨r,1,none⟩=some (.int .i64 t):=by rw[a];go_simp
 have l2:q.cell? ⟨r,2,none⟩=some (.string u):=by rw[a];go_simp
 have l3:q.cell? ⟨r,3,none⟩=some (.int .i64 x):=by rw[a];go_simp
 have B:=ah a;clear a;go_wp2_with fail;rw[← B.o];refine bodyPost_ret (v:=.tuple #[.agg #[.int .i64 s,.int .i64 t,.string u,.int .i64 x],.bool true]) (by simp[results,Tryz.results180,go_sem,Y,Z,l2,l3]) rfl ⟨⟨s,t,u,x⟩,rfl,fun y h=>by injection h,A⟩
end Cs
namespace Tr
open Sp Rw
theorem RX.Ns {w:World} {ok:Nat→Prop} {n c:Nat} {A:Option Addr} {xs:List Value} (h:RX w ok 1 A (n+1) c xs):RX w ok 1 (if c=1 then A else A.map (fun a:Addr=>a.add 1)) n (c-1) (xs.drop 1):=by
 have hc:=h.cap;have g:=h.len;refine⟨by rw[List.length_drop,g];omega,by omega,fun u hu=>h.one u (List.mem_of_mem_drop hu),fun hn=>?_⟩;obtain⟨b,o,rfl,d,e,f⟩:=h.at_ (by omega);refine⟨b,o+1,?_,d,e,fun j u hu=>?_⟩
 ·rw[if_neg (by omega)]
  simp[Addr.add]
 ·rw[List.getElem?_drop]at hu
  have:=f (1+j) u hu
  rwa [← Nat.add_assoc]at this
theorem MR (A:Option Addr) (n c:Nat) (W:World):(Instr.slice 25 (.slice A (n+1) c) (some (.int .i64 1)) none none).run Tryz.prog W = .ok (.slice (if c=1 then A else A.map (fun a:Addr=>a.add 1)) n (c-1)) W:=by
 obtain⟨i0,b,_,d,_⟩:=dO vH;exact dV (P:=Tryz.prog) 25 9 1 Tryz.underlying25 b d A (n+1) c 1 (by omega) W
theorem F_ {a:List Lf} {k:Nat} (h:k<a.length) (key:ByteArray):under (a.take (k+1)) key=under (a.take k) key++under [a[k]] key:=by rw[dZ h,oP]
theorem I8 (a:List Lf) (key:ByteArray):(under a key).length≤a.length:=List.length_filterMap_le _ _
set_option maxRecDepth 100000 in
set_option maxHeartbeats 4000000 in
theorem Aj (r:List Lf) (n:Nat) (A:Option Addr) (c:Nat) (key:ByteArray) (w:World) (hn:n≤100000) (h:mh w w.heap.size A n c r) :
  Calls Tryz.prog 118 #[.slice A n c,.string key] w fun e w'=>∃ A' c',e = .returned (.slice A' (under r key).length c')∧mh w' w'.heap.size A' (under r key).length c' (under r key)∧av w w':=by
 have HL:=ah h;have HN:=ah hn;have U:=ah h.1;have hn5:n≤100000:=HN.o;clear h hn;go_enter Tryz.func118,Tryz.ntmps118;go_wp2_with fail
 go_loopw [5,9] (fun s i wr=>∃ (k:Nat) (B:Option Addr) (m C:Nat) (Q:List (SV×E)),k≤n∧i = .int .i64 k∧s = .slice B m C∧ai (fF wr w.heap.size 109 B m C (under (r.take k) key) Q)∧ai (av w wr)) (fun _ i _=>n-(intOf i).toNat)
 case atStart=>exact⟨0,none,0,0,[],by omega,rfl,rfl,by unfold ai;simpa [under] using fF.nil w w.heap.size 109,bN⟩
 case round=>
  obtain⟨k,B,m,C,Q,hk,rfl,rfl,t,d⟩:=hrel
  by_cases NA:k<n
  ·have N8:k<r.length:=by rw[U.o];exact NA
   have hm5:m≤100000:=by
    have h1:=t.len;have h2:=I8 (r.take k) key;rw[l7]at h2;have:=HN.o;omega
   obtain⟨b,o,rfl,u,hc⟩:=mh.at_ HL (by omega);obtain⟨⟨Ap,np,J⟩,c0,c1,c2,c3,c4,g,j⟩:=hc k N8;dsimp only at c0 g j;have c0:=(d.cell (p:=⟨b,o+k*5,none⟩) u).trans c0;have c1:=(d.cell (p:=⟨b,o+k*5+1,none⟩) u).trans c1;have c2:=(d.cell (p:=⟨b,o+k*5+2,none⟩) u).trans c2;have c3:=(d.cell (p:=⟨b,o+k*5+3,none⟩) u).trans c3;have c4:=(d.cell (p:=⟨b,o+k*5+4,none⟩) u).trans c4;have f:=F_ N8 key;obtain⟨x,hx⟩:∃ x,x=r[k]:=⟨_,rfl⟩;rw[← hx]at c1 c2 c3 c4 g j f;obtain⟨p,ea,en,es,ev⟩:=x;dsimp only at c1 c2 c3 c4 g j;clear hc hx
   cases p with
   | nil=>
    obtain rfl:np=0:=by simpa using g.symm
    have v:ai (fF wr w.heap.size 109 B m C (under (r.take (k+1)) key) Q):=ah (by rw[f];simpa [under] using t.o)
    clear f j g;go_wp2_with fail;go_roundw
    case rel=>exact⟨k+1,B,m,C,Q,by omega,by go_num,rfl,v,d⟩
    case measure=>simp[intOf];omega
   | cons O p=>
    obtain⟨nq,NC⟩:∃ z,np=z+1:=⟨p.length,by rw[← g];rfl⟩;subst NC;have fz:decide ((0:Int)<((nq+1:Nat):Int))=true:=aJ (by omega);obtain⟨M,R,rfl,Ny,_,Nz⟩:=j.at_ (by omega);have p0:=(d.cell (p:=⟨M,R,none⟩) Ny).trans (by simpa [strs] using Nz 0 (.string O) (by simp[strs]));clear Nz
    by_cases F:O=key
    ·subst F
     have X:ai (under (r.take (k+1)) O=under (r.take k) O++[(p,⟨ea,en,es,ev⟩)]):=ah (by rw[f];simp[under])
     have y:RX wr (fun b=>(Value.slice B m C).ownBlock≠some b) 1 (if J=1 then some ⟨M,R,none⟩else Option.map (fun a:Addr=>a.add 1) (some (⟨M,R,none⟩:Addr))) nq (J-1) (strs p):=by
      have h1:=RX.Ns j
      have h2:(strs (O::p)).drop 1=strs p:=by simp[strs]
      rw[h2]at h1;exact (h1.keep d.size (fun b u _=>d.block b u)).mono (fun b u _=>fun e=>by have h3:=(t.own.row.lt b e).1;omega)
     obtain⟨Ac,N⟩:∃ z,z=(if J=1 then some ⟨M,R,none⟩else Option.map (fun a:Addr=>a.add 1) (some (⟨M,R,none⟩:Addr)):Option Addr):=⟨_,rfl⟩
     have hcut:∀ W,(Instr.slice 25 (.slice (some ⟨M,R,none⟩) (nq+1) J) (some (.int .i64 1)) none none).run Tryz.prog W = .ok (.slice Ac nq (J-1)) W:=fun W=>by rw[N];exact MR _ _ _ W
     rw[← N]at y
     have L:p.length=nq:=by simpa using g
     have D:av wr wr.drew:=(Below.refl _ wr).drew;obtain⟨A6,c6,w6,r1,H,l,_⟩:=fF.push (e:=⟨ea,en,es,ev⟩) (s:=⟨Ac,nq,J-1⟩) (t.later D) (aN d.size D.size) L (y.later D) (by omega)
     have V:ai (fF w6 w.heap.size 109 A6 (m+1) c6 (under (r.take (k+1)) O) (Q++[(⟨Ac,nq,J-1⟩,⟨ea,en,es,ev⟩)])):=ah (by rw[X.o];exact H)
     have N9:ai (av w w6):=d.drew.trans l;have t0:=(l.cell (p:=⟨b,o+k*5,none⟩) u).trans c0;have t1:=(l.cell (p:=⟨b,o+k*5+1,none⟩) u).trans c1;have t2:=(l.cell (p:=⟨b,o+k*5+2,none⟩) u).trans c2;have t3:=(l.cell (p:=⟨b,o+k*5+3,none⟩) u).trans c3;have t4:=(l.cell (p:=⟨b,o+k*5+4,none⟩) u).trans c4;have HT:=ah (And.intro t0 (And.intro t1 (And.intro t2 (And.intro t3 t4))));dsimp only at r1;have N7:wr.drew.heap.size=wr.heap.size:=rfl;rw[N7]at r1;have Y:=ah r1;clear N j y g L D r1 H l f Ny t0 t1 t2 t3 t4 N7;go_wp2_with fail;refine Rk (S:=fun W=>W.cell? ⟨b,o+k*5,none⟩=some (.slice (some ⟨M,R,none⟩) (nq+1) J)∧W.cell? ⟨b,o+k*5+1,none⟩=some (.int .i64 ea)∧W.cell? ⟨b,o+k*5+2,none⟩=some (.int .i64 en)∧W.cell? ⟨b,o+k*5+3,none⟩=some (.string es)∧W.cell? ⟨b,o+k*5+4,none⟩=some (.int .i64 ev)) (fun hHeld=>?_)
     refine T4 0 30 1 31 2 32 3 33 ?_;refine T4 4 34 5 35 6 36 7 37 ?_;refine T4 8 38 9 39 10 40 11 41 ?_;refine Tk 12 42 ?_;refine Tc 13 (fun K Z=>?_);go_simp;refine Th Z ?_ (fun q=>?_)
     ·(try dsimp only);go_keep
     clear Z K hHeld;have hHeld:=q;clear q;refine Tc 14 (fun K Z=>?_);refine bg _ _ _ rfl rfl rfl Y ?_;clear hHeld;refine Th Z ?_ (fun hHeld=>?_)
     ·exact HT.o
     clear Z K;refine Tk 15 5 ?_;refine Td ?_;clear hHeld;go_wp2_with fail;go_roundw
     case rel=>exact⟨k+1,A6,m+1,c6,_,by omega,by go_num,rfl,V,N9⟩
     case measure=>simp[intOf];omega
    ·have f4:(O.toList==key.toList)=false:=dJ F
     have v:ai (fF wr w.heap.size 109 B m C (under (r.take (k+1)) key) Q):=ah (by rw[f];simpa [under,F] using t.o)
     clear f j g F;go_wp2_with fail;go_roundw
     case rel=>exact⟨k+1,B,m,C,Q,by omega,by go_num,rfl,v,d⟩
     case measure=>simp[intOf];omega
  ·obtain rfl:k=n:=by omega
   have G:=t.rd;rw[eO (by rw[U.o];omega)]at G;obtain rfl:(under r key).length=m:=G.1;have N_:=ah G;clear G;go_wp2_with fail;go_ret;exact⟨B,C,rfl,N_,d⟩
end Tr
namespace Tr
open Sp Rw
def Nj:E:=⟨0,0,⟨#[]⟩,0⟩
def h_ (r:Option E):E:=match r with | none=>Nj | some e=>e
def qU (r:Option ByteArray):ByteArray:=match r with | none=>⟨#[]⟩ | some k=>k
section
variable {α:Type} {lt:α→α→Prop} {ab:α→Prop} {m:List α} {x b:α} {r:Option α}
theorem lT (h:¬ab x) (c:bq lt m ab r):bq lt (m++[x]) ab r:=by
 cases r with
 | none=>
  intro y a
  rcases fO.1 a with a | a
  ·exact c y a
  ·rw[eX.1 a];exact h
 | some b=>
  refine⟨yE _ c.1,c.2.1,fun y a d=>?_⟩
  rcases fO.1 a with a | a
  ·exact c.2.2 y a d
  ·rw[eX.1 a]at d;exact absurd d h
theorem nP (d:∀ a,¬lt a a) (h:ab x) (f:bq lt m ab none):bq lt (m++[x]) ab (some x):=by
 refine⟨Ec _ fA,h,fun y c e=>?_⟩
 rcases fO.1 c with c | c
 ·exact absurd e (f y c)
 ·rw[eX.1 c];exact d x
theorem lS (f:∀ a,¬lt a a) (k:∀ a b c,lt a b→lt b c→lt a c) (h:ab x) (i:lt x b) (j:bq lt m ab (some b)):bq lt (m++[x]) ab (some x):=by
 refine⟨Ec _ fA,h,fun y d g=>?_⟩
 rcases fO.1 d with d | d
 ·exact fun e=>j.2.2 y d g (k _ _ _ e i)
 ·rw[eX.1 d];exact f x
theorem nQ (e:¬lt x b) (c:bq lt m ab (some b)):bq lt (m++[x]) ab (some b):=by
 refine⟨yE _ c.1,c.2.1,fun y a d=>?_⟩
 rcases fO.1 a with a | a
 ·exact c.2.2 y a d
 ·rw[eX.1 a];exact e
end
theorem Fv {a:List Lf} {k:Nat} (h:k<a.length):fQ (a.take (k+1))=fQ (a.take k)++fQ [a[k]]:=by
 rw[dZ h];unfold fQ;rw[List.filterMap_append]
theorem EA {a:List Lf} {k:Nat} (h:k<a.length):iD (a.take (k+1))=iD (a.take k)++iD [a[k]]:=by
 rw[dZ h];unfold iD;rw[List.filterMap_append]
theorem zL:∀ {ks:List (ByteArray×T)},ks.Pairwise (fun x y=>cK x.1 y.1)→∀ (j:Nat) (h:j<ks.length),aR ks (ks[j]).1=(ks[j]).2
 | k::ks,hp,0,_=>by
  show aR (k::ks) k.1=k.2;unfold aR;rw[if_pos rfl]
 | k::ks,hp,j+1,h=>by
  rw[fq]at hp
  have c:j<ks.length:=by simpa using h
  have a:=hp.1 (ks[j]) (bT c);show aR (k::ks) (ks[j]).1=(ks[j]).2;unfold aR;rw[if_neg (fun e=>aQ.irr (ks[j]).1 (by rw[e]at a;exact a))];exact zL hp.2 j c
theorem Jz {d:Nat} {es:List E} {ks:List (ByteArray×T)} (h:au (d+1) (.mk es ks)) {k:ByteArray} (a:k∈iD (leaves (.mk es ks))):1≤k.size:=by
 obtain⟨x,c,rfl⟩:=dH.1 ((sG h k).1 a);exact (h.2.2.2 x c).1.1
theorem _root_.Go.Proofs.YtgeafpaognhokaaGreat.aA.low {g B:Nat} {w w':World} (h:aA g w) (a:Below B w w') (c:g<B) (d:w.heap.size≤w'.heap.size):aA g w':=⟨cO h.1 d,fun j=>(a.frozen (p:=⟨g,j,none⟩) c).trans (h.2 j)⟩
theorem nW (W:World) (base q:Nat) (p:W.heap.size=q) {A:Option Addr} {n c:Nat} {l:List E} (h:Own W base 97 4 A n c (bV l)) (k:l.length=n) (j:base≤W.heap.size) (e:E) (hn:n≤800000) :
  ∃ A' c' w',(Builtin.append_ #[32,32] 32 #[.slice A n c,.slice (some ⟨q,0,none⟩) 1 1]).run Tryz.prog (W.alloc (.cells #[.int .i64 e.a,.int .i64 e.n,.string e.s,.int .i64 e.v] 97)) = .ok (.slice A' (n+1) c') w'∧Own w' base 97 4 A' (n+1) c' (bV (l++[e]))∧Below base W w':=by
 subst k;obtain⟨A',c',w',d,g,u⟩:=Rw.push (f:=wT) gQ Jk (t:=32) Tryz.underlying32 J7 rfl (by omega) (by omega) W base q p j (.slice A l.length c) l h.row e _ rfl (by omega)
 have i:(l++[e]).length=l.length+1:=by simp
 rw[i]at d g;exact⟨A',c',w',d,g,u⟩
def bD (ks:List (ByteArray×T)) (j:Nat):ByteArray:=match j with | 0=>⟨#[]⟩ | j+1=>((ks.map fun x=>x.1)[j]?).getD ⟨#[]⟩
theorem DK {k:ByteArray} (h:1≤k.size):∃ a l,k.toList=a::l:=by
 rcases hk:k.toList with _ | ⟨a,l⟩
 ·have c:k.toList.length=k.size:=by rw[nu];simp
  rw[hk]at c
  simp at c
  omega
 ·exact⟨a,l,rfl⟩
theorem mQ {k:ByteArray} (h:1≤k.size):k.toList.isEmpty=false:=by
 obtain⟨a,l,e⟩:=DK h;rw[e];rfl
theorem mJ:(⟨#[]⟩:ByteArray).toList.isEmpty=true:=by
 rw[nu];rfl
theorem GI {ks:List (ByteArray×T)} {j:Nat} {k:ByteArray} (h:1≤k.size) (hj:j≤ks.length):pF cK (ks.map fun x=>x.1) j k↔Op.bytesLess (bD ks j).toList k.toList=true:=by
 cases j with
 | zero=>
  obtain⟨a,l,e⟩:=DK h;refine⟨fun _=>?_,fun _ f _=>absurd f (by omega)⟩;show Op.bytesLess (⟨#[]⟩:ByteArray).toList k.toList=true;rw[e,nu];rfl
 | succ j=>
  have d:j<(ks.map fun x=>x.1).length:=by rw[eP];omega
  have e:bD ks (j+1)=(ks.map fun x=>x.1)[j]:=by show ((ks.map fun x=>x.1)[j]?).getD ⟨#[]⟩=_;rw[v_ d];rfl
  rw[e];exact⟨fun c=>c (by omega) d,fun c _ _=>c⟩
def dS:Option Value→Nat | some (.slice _ n _)=>n | _=>0
end Tr
namespace Tr
open Sp Rw
set_option maxRecDepth 100000 in
set_option maxHeartbeats 4000000 in
theorem Dl (t:T) (Ae Ak:Option Addr) (ne nk ce ck:Nat) (w:World) (y:nodes t≤1000) (hr:aF w w.heap.size t ⟨Ae,ne,ce⟩ ⟨Ak,nk,ck⟩) (r:Cx.goodD (dl t)) (u:List Cx.S3) (hu:Cx.pG (dl t) u) (q:Nat) (hq:u.length=q) (O:q≤800000) :
  Calls Tryz.prog 72 #[.agg #[.slice Ae ne ce,.slice Ak nk ck]] w fun e w'=>∃ A' c',e = .returned (.slice A' q c')∧Own w' w.heap.size 117 3 A' q c' (aP u)∧av w w':=by
 have HR:=ah hr;have HN:=ah y;have HU:=ah hu;have HQ:=ah hq;have X:=ah r;have Ny:=ah O;clear hr y hu hq r O;obtain⟨g,r⟩:∃ g,g=w.heap.size:=⟨_,rfl⟩;have f:=ah (bQ w Ae Ak ne nk ce ck);rw[← r]at f;obtain⟨W0,j⟩:∃ W,W=w.alloc (.cells #[.slice Ae ne ce,.slice Ak nk ck] 35):=⟨_,rfl⟩;rw[← j]at f;have HG:=ah r;have N7:=ah j;have k0:=f.c0;have k1:=f.c1;clear r j;go_enter Tryz.func72,Tryz.ntmps72;go_wp2_with fail;rw[← HG.o,← N7.o];refine (x9 t Ae Ak ne nk ce ck W0 (by have:=HN.o;omega) (aF.more f.below.size _ (aF.below HR f.below))).mono ?_;rintro e z ⟨Al,cl,rfl,hl,G⟩;have C:=ah (f.later G);have D:=ah hl
 obtain⟨n,y⟩:∃ n,n=(leaves t).length:=⟨_,rfl⟩;rw[← y]at D ⊢;have h:=ah y
 have N9:n≤1000:=by have:=dw t;have:=HN.o;omega
 clear k0 k1 G hl y;go_wp2_with fail
 go_loopw [3,10] (fun v i wr=>∃ (k:Nat) (l:Option Addr) (m:Nat),k≤n∧i = .int .i64 k∧v = .slice l k m∧ai (Own wr z.heap.size 37 2 l k m (((leaves t).take k).map (fun x=>sj x.2) |>.flatMap Cx.jG))∧ai (Gr z wr (.slice none 0 0) (.slice l k m))) (fun _ i _=>n-(intOf i).toNat)
 case atStart=>exact⟨0,none,0,by omega,rfl,rfl,⟨iy _ _ _ _,by simp⟩,Gr.refl _ _⟩
 case round=>
  obtain⟨k,l,m,hk,rfl,rfl,HO,A⟩:=hrel;have d:av z wr:=A.below (bG) (fun k hk=>by simp[Value.ownBlock]at hk)
  by_cases N8:k<n
  ·have M:k<(leaves t).length:=by rw[← h.o];exact N8
   obtain⟨b,o,rfl,hb,hc⟩:=mh.at_ D (by omega);obtain⟨s,_,c1,c2,c3,c4,_,_⟩:=hc k M;have c1:=(d.cell (p:=⟨b,o+k*5+1,none⟩) hb).trans c1;have c2:=(d.cell (p:=⟨b,o+k*5+2,none⟩) hb).trans c2
   have c:ai (((leaves t).take (k+1)).map (fun x=>sj x.2)=((leaves t).take k).map (fun x=>sj x.2)++[(((leaves t)[k]).2.a,((leaves t)[k]).2.n)]):=ah (by rw[dZ M,mD];rfl)
   obtain⟨ea,J⟩:∃ x,x=((leaves t)[k]).2.a:=⟨_,rfl⟩;obtain⟨en,L⟩:∃ x,x=((leaves t)[k]).2.n:=⟨_,rfl⟩;rw[← J]at c1 c;rw[← L]at c2 c;obtain⟨S,c6,w6,r1,r2,r3⟩:=Dj wr z.heap.size wr.heap.size rfl HO d.size (ea,en) (by omega)
   have Y:ai (Own w6 z.heap.size 37 2 S (k+1) c6 (((leaves t).take (k+1)).map (fun x=>sj x.2) |>.flatMap Cx.jG)):=ah (by rw[c.o];exact r2)
   have B:ai (Gr z w6 (.slice none 0 0) (.slice S (k+1) c6)):=A.trans r3;have F:=ah r1;clear hc J L r1 r2 r3 c c3 c4 d;go_wp2_with (at_builtin;refine Lib.wpList_append_run _ rfl _ _ _ _ rfl _ _ rfl rfl _ _ F ?_);go_roundw
   case rel=>exact⟨k+1,S,c6,by omega,by go_num,rfl,Y,B⟩
   case measure=>simp[intOf];omega
  ·obtain rfl:k=n:=by omega
   have R:Rd wr wr.heap.size 2 l k m ((dl t).flatMap Cx.jG):=by
    have h1:=HO.o;rw[eO (by rw[← h.o];omega)]at h1;exact h1.rd
   have N:=Cx.Fh (dl t) k l m wr (by rw[Jd];exact h.symm) N9 R X u HU q HQ Ny.o;have Z:=ah N;have U:=ah (C.below.trans (d.mono C.below.size));clear R N d;go_wp2_with fail;refine Z.mono ?_;rintro e w3 ⟨A3,c3,rfl,Q,H⟩;have Nz:=ah (Q.mono U.size);have V:=ah (U.trans (H.mono U.size));clear Q H;go_wp2_with fail;go_ret;exact⟨A3,c3,rfl,Nz,V⟩
theorem kK (t:T) (Ae Ak:Option Addr) (ne nk ce ck:Nat) (w:World) (g:nodes t≤1000) (j:aF w w.heap.size t ⟨Ae,ne,ce⟩ ⟨Ak,nk,ck⟩) (f:Cx.goodD (dl t)) (u:List Cx.S3) (hu:Cx.pG (dl t) u) (q:Nat) (i:u.length=q) (a:q≤800000) :
  Calls Tryz.prog 72 #[.agg #[.slice Ae ne ce,.slice Ak nk ck]] w fun e w'=>∃ A' c',e = .returned (.slice A' q c')∧Rd w' w'.heap.size 3 A' q c' (aP u)∧av w w':=
 (Dl t Ae Ak ne nk ce ck w g j f u hu q i a).mono fun e w' h=>by
  obtain⟨A',c',b,c,d⟩:=h;exact⟨A',c',b,c.rd,d⟩
end Tr
namespace Tr
open Sp Rw
theorem kJ (W:World) (base q:Nat) (f:W.heap.size=q) {A:Option Addr} {n c:Nat} {l:List ByteArray} (h:Own W base 9 1 A n c (strs l)) (b:base≤W.heap.size) (s:ByteArray) (e:n≤800000) :
  ∃ A' c' w',(Builtin.append_ #[25,25] 25 #[.slice A n c,.slice (some ⟨q,0,none⟩) 1 1]).run Tryz.prog (W.alloc (.cells #[.string s] 9)) = .ok (.slice A' (n+1) c') w'∧Own w' base 9 1 A' (n+1) c' (strs (l++[s]))∧Below base W w':=by
 subst f;have a:av W (W.alloc (.cells #[.string s] 9)):=Dt.ay _ _ _;obtain⟨d,c4,k,g,i,j⟩:=vY (W.alloc (.cells #[.string s] 9)) base (aG h a) (aN b a.size) (rd_key _ W.heap.size (W.heap.size+1) (by omega) s (heap_alloc_new _ _)) e;exact⟨d,c4,k,g,i,(a.mono b).trans j⟩
theorem ku (W:World) (s:ByteArray):Rd (W.alloc (.cells #[.string s] 9)) (W.alloc (.cells #[.string s] 9)).heap.size 1 (some ⟨W.heap.size,0,none⟩) 1 1 (strs [s]):=rd_key _ _ _ (by simp) s (heap_alloc_new _ _)
theorem gM {w:World} {B n c:Nat} {A:Option Addr} {l:List ByteArray} (h:Rd w B 1 A n c (strs l)) (f:0<n):∃ b o,A=some ⟨b,o,none⟩∧b<B∧∀ (i:Nat) (hi:i<l.length),w.cell? ⟨b,o+i,none⟩=some (.string l[i]):=by
 obtain⟨b,o,e,a,d⟩:=h.at_ f;exact⟨b,o,e,a,fun i hi=>d i _ (by simp[strs,hi])⟩
theorem DL (l:List ByteArray):(strs l).length=l.length:=eP _
theorem bM {w:World} {B n c:Nat} {A:Option Addr} {l:List ByteArray} (h:Rd w B 1 A n c (strs l)):l.length=n:=by
 have:=h.len;rw[DL,Nat.mul_one]at this;exact this
end Tr
namespace Cs
open Tr Cx Sp Rw Classical
end Cs
end
end Go.Proofs.YtgeafpaognhokaaGreat
