/- Texts of the lower layers, and of layer 9, put together. -/
import Derived.Test.YtgeafpaognhokaaGreatG00
import Derived.Test.YtgeafpaognhokaaGreatG110
import Derived.Test.YtgeafpaognhokaaGreatG60
import Derived.Test.YtgeafpaognhokaaGreatG50
import Derived.Test.YtgeafpaognhokaaGreatG10
import Derived.Test.YtgeafpaognhokaaGreatG01
namespace Go.Proofs.YtgeafpaognhokaaGreat
section
open ChangeShapes WideShapes ChangeAt RowKit
namespace Cs
open Tr Cx Sp Rw Classical
theorem BJ:f_ [(⟨#[99]⟩:ByteArray)]:=⟨by simp,by simp,fun k b=>by
 rw[eX.1 b]
 exact⟨by show ByteArray.size ⟨#[99]⟩≤30;decide,by show (3:Nat)≠0;decide⟩,fun i h a=>by simp at a⟩
theorem Nf:jM ⟨[(⟨#[99]⟩:ByteArray)],5,⟨#[]⟩,3⟩:=⟨BJ,.inr (.inr (.inl ⟨rfl,rfl⟩)),fun h=>by simp at h,fun h=>by simp at h,fun _=>rfl,fun _=>by decide,fun h=>absurd rfl h⟩
theorem M9:qM none_ ⟨[(⟨#[99]⟩:ByteArray)],5,⟨#[]⟩,3⟩ 1 1=0:=by
 unfold qM;rw[if_neg (by rw[right_none];decide),if_neg (fun h=>h (mY Nf)),if_neg (by rw[Es];decide),if_neg];unfold pV;rw[eG];rintro⟨_,⟨k,hk,a,_⟩ | ⟨_,a⟩⟩
 ·rw[nH]at a
  exact absurd a (by show ¬24≤([]:List Kd).length;simp)
 ·rw[nH]at a
  exact absurd a (by show ¬24≤([]:List E).length;simp)
set_option maxRecDepth 100000 in
set_option maxHeartbeats 4000000 in
theorem mE (w:World):Calls Tryz.prog 12 #[] w fun e w'=>e = .returned (.bool true)∧av w w':=by
 obtain⟨c,p⟩:∃ x:ByteArray,x=⟨#[99]⟩:=⟨_,rfl⟩;have q:=ah p
 have i:ai (f_ [c]∧qM none_ ⟨[c],5,⟨#[]⟩,3⟩ 1 1=0∧bD [c]=3∧iV c):=ah (by rw[p];exact⟨BJ,M9,rfl,uP BJ _ (by simp)⟩)
 obtain⟨gs,W,n,X,b,-⟩:=Er w (.string c) 9
 have RS:ai (Rd W W.heap.size 1 (some ⟨gs,0,none⟩) 1 1 (Tr.strs [c])):=ah (by rw[X,n];exact ku _ _)
 have a:ai (Kept [] w W):=Kept.a_ b;have U:=ah n;have HW:=ah X;clear p n X b;go_enter Tryz.func12,Tryz.ntmps12;go_wp2_with fail;rw[← q.o,← U.o,← HW.o];refine (rE none_ none none 0 0 0 0 [c] 5 ⟨#[]⟩ 3 (some ⟨gs,0,none⟩) 1 1 1 1 W 0 i.2.1 (LenT.few (by rw[nodes_none];omega)) (by rw[nodes_none];omega) (aF.none _ _ _ _) (by rw[nodes_none];omega) (by omega) RS).mono ?_;rintro e v1 ⟨G,Xe,H,J,Xk,L,M,Xc,Ny,Nz,rfl,B,A,b⟩;have RX:=ah (vB.b_ B)
 have k:ai (G.1=(bF (cu ⟨1,1,⟨#[]⟩,3⟩) [c])):=by
  unfold ai;rw[(A.o.1 rfl).1.tree,if_pos (by unfold brings;simp)];unfold eT bL;simp
 have a:=ah (a.later b);clear B A b RS;have R:ai (au 5 (bF (cu ⟨1,1,⟨#[]⟩,3⟩) [c])):=Dw ⟨by decide,by show ByteArray.size ⟨#[]⟩≤30;decide,by show (-1099511627776:Int)≤3;decide,by show (3:Int)≤1099511627776;decide⟩ i.2.2.2
 have l:ai (nodes G.1=2):=ah (by rw[k.o,Tr.nodes_wrap,iQ];rfl)
 have O:ai (vM G.1 [c]=0):=by
  unfold ai vM;rw[k.o,if_neg (by rw[Tr.aO.2 R.o];decide)];exact jT.2 i.1
 have Q:ai (uh (aI G.1 [c]) (bD [c]) ⟨3,false,3,[]⟩):=by
  unfold ai;rw[i.o.2.2.1,k.o,show aI (bF (cu ⟨1,1,⟨#[]⟩,3⟩) [c]) [c]=cu ⟨1,1,⟨#[]⟩,3⟩ from Cn _ _];exact⟨rfl,by simp,by simp[g_,T.es,cu],(fun h=>by cases h),(fun h=>by cases h),(fun h=>by cases h),fun _=>rfl⟩
 obtain⟨g,Z,hg,D,b,t,u,v⟩:=rW v1 (.slice Xe H J) (.slice Xk L M) (.slice Xc Ny Nz) 42;obtain⟨a,RX⟩:=gI b a RX;clear b;have a:=ah (((a.af v).af u).af t);have S:=ah hg;have m:=ah D;clear hg D t u v;obtain⟨c0,c1,c2,-⟩:=a.cj;rw[m.o]at c0 c1 c2;rw[S.o]at c0 c1 c2
 have C:Z.heap.size=g+1:=by rw[m.o,S.o];simp
 obtain⟨y,f⟩:∃ z,z=g+1:=⟨_,rfl⟩;obtain⟨N,j⟩:∃ W,W=Z.alloc (.cells #[.string c] 9):=⟨_,rfl⟩
 have b:av Z N:=by rw[j];exact Dt.ay _ _ _
 obtain⟨a,RX⟩:=gI b a RX;clear b
 have d:ai (Rd N N.heap.size 1 (some ⟨y,0,none⟩) 1 1 (strs [c])):=ah (by rw[j,f,← C];exact ku _ _)
 have r:=ah f;have V:=ah j;clear f j C;go_wp2_with fail
 try rw[← q.o]
 rw[← S.o,← m.o];rw[← r.o,← V.o];refine (zT G.1 Xe Xk H L J M [c] (some ⟨y,0,none⟩) 1 1 ⟨3,false,3,[]⟩ 0 N O (fun _=>Q.o) (fun h=>absurd rfl h) (LenT.few (by rw[l.o];omega)) (by rw[l.o];omega) RX.tree (by rw[l.o];omega) (by omega) d (by simp)).mono ?_;rintro e v4 ⟨VA,vc,he,Y,b⟩;obtain rfl:e = .returned (.tuple #[.agg #[.int .i64 3,.bool false,.int .i64 3,.slice VA 0 vc],.int .i64 0]):=he;clear Y;obtain⟨a,RX,d⟩:=kX b a RX d;clear b;clear c0 c1 c2;obtain⟨h,v5,hh,F,b,t,u,v,b3⟩:=zi v4 (.int .i64 3) (.bool false) (.int .i64 3) (.slice VA 0 vc) 51;obtain⟨a,RX,d⟩:=kX b a RX d;clear b;have a:=ah ((((a.af b3).af v).af u).af t);have Hh:=ah hh;have s:=ah F
 clear hh F t u v b3;obtain⟨c0,c1,c2,c3,c4,c5,c6,-⟩:=a.cj;rw[s.o]at c0 c1 c2 c3 c4 c5 c6;rw[Hh.o]at c0 c1 c2 c3;go_wp2_with fail;go_ret;exact⟨by first | rfl | simp,by have h:=a.below;first | exact h | (rw[s.o]at h;exact h)⟩
end Cs
namespace Cs
open Tr Cx Sp Rw Classical
set_option maxRecDepth 100000
theorem Ni {n:Int} (h:(Lit.int .u8 n).wf=true):0≤n∧n≤255:=by
 have a:IntKind.u8.min=0:=by decide
 have b:IntKind.u8.max=255:=by decide
 simp[Lit.wf,a,b]at h;exact h
theorem yT {H:Type} {enc:TypeId×Value→H} {W:World} {fuel:Nat} {u:Value} {y:DataW H×List MemPlace} (h:DataW.trod enc Tryz.prog W 0 (fun _=>true) true fuel 25 [u]=some y):∃ (A:Option Addr) (n c:Nat) (l:List ByteArray),u = .slice A n c∧Rd W W.heap.size 1 A n c (Tr.strs l):=by
 obtain⟨A,n,c,rfl⟩:∃ A n c,u = .slice A n c:=by
  rcases DataW.trod_slice Tryz.underlying25 h with ⟨e,_⟩ | ⟨a,len,b,_,_,_,_,e,_⟩ <;> exact⟨_,_,_,by simpa using e⟩
 obtain⟨l,_,d,_⟩:=strs_of_trod (A:=A) (len:=n) (cap:=c) h;exact⟨A,n,c,l,rfl,d⟩
theorem EZ {H:Type} {enc:TypeId×Value→H} {W:World} {fuel:Nat} {j:List Value} {y:DataW H×List MemPlace} (h:DataW.trod enc Tryz.prog W 0 (fun _=>true) true fuel 27 j=some y):∃ (A:Option Addr) (n c:Nat) (o:jK),j=[.slice A n c,.int .i64 o.act,.string o.s,.int .i64 o.n]∧Rd W W.heap.size 1 A n c (Tr.strs o.path):=by
 obtain⟨e,f,g,i,N,V,Q,X,R,Y,S,Z,U⟩:∃ e f g i:Field,Tryz.prog.underlying 27=some (.struct #[e,f,g,i])∧e.type=25∧e.offset=0∧f.type=3∧f.offset=1∧g.type=9∧g.offset=2∧i.type=2∧i.offset=3:=⟨_,_,_,_,Tryz.underlying27,rfl,rfl,rfl,rfl,rfl,rfl,rfl,rfl⟩;obtain⟨M,n,rfl,rfl,d,z,b⟩:=DataW.trod_struct N h
 have r:Tryz.prog.cellsOf 27=4:=by kernel_rfl
 have w:Tryz.prog.cellsOf 25=1:=by kernel_rfl
 have t:Tryz.prog.cellsOf 3=1:=by kernel_rfl
 have x:Tryz.prog.cellsOf 9=1:=by kernel_rfl
 have u:Tryz.prog.cellsOf 2=1:=by kernel_rfl
 rw[r]at d
 obtain⟨c0,c1,c2,c3,rfl⟩:∃ c0 c1 c2 c3,j=[c0,c1,c2,c3]:=by
  match j,d with
  | [c0,c1,c2,c3],_=>exact⟨_,_,_,_,rfl⟩
 obtain⟨B,C,D,F,rfl⟩:∃ B C D F,M=[B,C,D,F]:=by
  match M,z with
  | [B,C,D,F],_=>exact⟨_,_,_,_,rfl⟩
 have k:=b 0 e rfl;have m:=b 1 f rfl;have p:=b 2 g rfl;have q:=b 3 i rfl;rw[V,Q,w]at k;rw[X,R,t]at m;rw[Y,S,x]at p;rw[Z,U,u]at q
 simp at k m p q
 obtain⟨A,n,c,l,rfl,O⟩:=yT k;obtain⟨a,G,_,_⟩:=DataW.trod_int Tryz.underlying3 m;obtain⟨s,J,_,_⟩:=DataW.trod_string Tryz.underlying9 p;obtain⟨v,L,_,_⟩:=DataW.trod_int Tryz.underlying2 q
 simp at G J L
 subst G;subst J;subst L;exact⟨A,n,c,⟨l,a,s,v⟩,rfl,O⟩
theorem vD {H:Type} {enc:TypeId×Value→H} {W:World} {fuel:Nat} {j:List Value} {y:DataW H×List MemPlace} (h:DataW.trod enc Tryz.prog W 0 (fun _=>true) true fuel 70 j=some y):∃ x:uf,j=aC x∧Rd W W.heap.size 1 x.p.A x.p.n x.p.c (Tr.strs x.o.path)∧(0≤x.wh∧x.wh≤255)∧(0≤x.fr∧x.fr≤255):=by
 obtain⟨d,e,f,g,L,U,O,V,Q,X,R,Y,S⟩:∃ d e f g:Field,Tryz.prog.underlying 70=some (.struct #[d,e,f,g])∧d.type=5∧d.offset=0∧e.type=5∧e.offset=1∧f.type=4∧f.offset=2∧g.type=27∧g.offset=3:=⟨_,_,_,_,Tryz.underlying70,rfl,rfl,rfl,rfl,rfl,rfl,rfl,rfl⟩;obtain⟨J,n,rfl,rfl,b,u,a⟩:=DataW.trod_struct L h
 have s:Tryz.prog.cellsOf 70=7:=by kernel_rfl
 have r:Tryz.prog.cellsOf 27=4:=by kernel_rfl
 have i:Tryz.prog.cellsOf 5=1:=by kernel_rfl
 have t:Tryz.prog.cellsOf 4=1:=by kernel_rfl
 rw[s]at b
 obtain⟨c0,c1,c2,c3,c4,c5,c6,rfl⟩:∃ c0 c1 c2 c3 c4 c5 c6,j=[c0,c1,c2,c3,c4,c5,c6]:=by
  match j,b with
  | [c0,c1,c2,c3,c4,c5,c6],_=>exact⟨_,_,_,_,_,_,_,rfl⟩
 obtain⟨v,w,z,B,rfl⟩:∃ v w z B,J=[v,w,z,B]:=by
  match J,u with
  | [v,w,z,B],_=>exact⟨_,_,_,_,rfl⟩
 have k:=a 0 d rfl;have l:=a 1 e rfl;have m:=a 2 f rfl;have q:=a 3 g rfl;rw[U,O,i]at k;rw[V,Q,i]at l;rw[X,R,t]at m;rw[Y,S,r]at q
 simp at k l m q
 obtain⟨wh,C,_,Z⟩:=DataW.trod_int Tryz.underlying5 k;obtain⟨fr,D,_,w1⟩:=DataW.trod_int Tryz.underlying5 l;obtain⟨M,F,_⟩:=DataW.trod_bool Tryz.underlying4 m;obtain⟨A,n,c,o,G,N⟩:=EZ q
 simp at C D F G
 obtain⟨rfl,rfl,rfl,rfl⟩:=G;subst C;subst D;subst F;exact⟨⟨wh,fr,M,o,⟨A,n,c⟩⟩,rfl,N,Ni Z,Ni w1⟩
theorem ou {H:Type} {enc:TypeId×Value→H} {W:World} {A:Option Addr} {len cap fuel:Nat} {x:DataW H×List MemPlace}
  (h:DataW.trod enc Tryz.prog W 0 (fun _=>true) true fuel 61 (Value.slice A len cap).cells.toList=some x):∃ l:List uf,pu W W.heap.size A len cap l:=by
 obtain⟨s,f,e,hfl,b,_,g,_⟩:=Dy (sz:=7) Tryz.underlying61 (by kernel_rfl) (by omega) (fun n cs y _ j u hu=>by
  obtain⟨x,rfl,_⟩:=vD j;simp[aC]at hu
  rcases hu with rfl | rfl | rfl | rfl | rfl | rfl | rfl <;> rfl) h
 simp[Value.cells]at e;obtain⟨q,r,t⟩:=e;subst q;subst r;subst t
 have d:∀ i,∃ x:uf,i<s.n→f i=aC x∧Rd W W.heap.size 1 x.p.A x.p.n x.p.c (Tr.strs x.o.path)∧(0≤x.wh∧x.wh≤255)∧(0≤x.fr∧x.fr≤255):=by
  intro i
  by_cases hi:i<s.n
  ·obtain⟨m,y,hm,j,_⟩:=b i hi
   obtain⟨x,v⟩:=vD j;exact⟨x,fun _=>v⟩
  ·exact⟨⟨0,0,false,⟨[],0,ByteArray.empty,0⟩,⟨none,0,0⟩⟩,fun h=>absurd h hi⟩
 obtain⟨k,a⟩:=Classical.axiomOfChoice d;refine⟨(List.range s.n).map k,by simp,?_,fun x w=>?_⟩
 ·have e:((List.range s.n).map k).flatMap aC=(List.range s.n).flatMap f:=by
   rw[List.flatMap_map];unfold List.flatMap
   congr 1
   exact List.map_congr_left fun i hi=>((a i (List.mem_range.1 hi)).1).symm
  rw[e];exact g
 ·obtain⟨i,hi,rfl⟩:=dH.1 w
  exact (a i (List.mem_range.1 hi)).2
end Cs
end
end Go.Proofs.YtgeafpaognhokaaGreat
