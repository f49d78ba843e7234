/- Sets of dots, the program's: a context center by center ('split'). -/
import Derived.Test.YtgeafpaognhokaaGreatG00
namespace Go.Proofs.YtgeafpaognhokaaGreat
open ChangeShapes WideShapes ChangeAt RowKit
namespace Cx
open Sp Rw

noncomputable def bA (l:List S3):Bool:=@decide (aH l) (Classical.propDecidable _)
theorem fK {l:List S3} (h:aH l):bA l=true:=by unfold bA;exact @decide_eq_true _ (Classical.propDecidable _) h
theorem kC {l:List S3} (h:¬aH l):bA l=false:=by unfold bA;exact @decide_eq_false _ (Classical.propDecidable _) h
theorem EX {l:List S3} (h:bA l=true):aH l:=by unfold bA at h;exact @of_decide_eq_true _ (Classical.propDecidable _) h
theorem Jg {l:List S3} {k:Nat} (a:k<l.length) {r:S3} (b:r=l[k]):l.drop k=r::l.drop (k+1):=by rw[b];exact List.drop_eq_getElem_cons a
theorem uO {l:List S3} {k:Nat} (a:k<l.length) {r:S3} (b:r=l[k]) (d:Int):part (l.take (k+1)) d=if r.1=d then part (l.take k) d++[r.2]else part (l.take k) d:=by
 rw[dZ a,mK,← b,eu,tu]
 split <;> simp
def Aw (w:World) (s:SV) (r:List (Int×Int)):Prop:=r.length=s.n∧Rd w w.heap.size 2 s.A s.n s.c (aS r)
def KD (l:List S3) (b:Bool) (w:World) (e:Ending) (w':World):Prop:=
 ∃ s:Nat→SV,e = .returned (.tuple #[.agg #[.slice (s 0).A (s 0).n (s 0).c,.slice (s 1).A (s 1).n (s 1).c,.slice (s 2).A (s 2).n (s 2).c,.slice (s 3).A (s 3).n (s 3).c],.bool b]) ∧
  ai (∀ d:Nat,d<4→Aw w' (s d) (if b then part l d else []))∧av w w'
theorem vH:(Tryz.prog.info? 117).map (fun i=>(i.zero,i.size,i.bytes))=some (some (.agg #[.int .i64 0,.int .i64 0,.int .i64 0]),3,24):=by kernel_rfl
theorem Kz {l:List S3} {k d:Nat} (a:k<l.length) {x y:Int} (b:((d:Int),x,y)=l[k]) :
  upd (fun i=>aS (part (l.take k) i)) d (aS (part (l.take k) d)++[.int .i64 x,.int .i64 y])=fun i:Nat=>aS (part (l.take (k+1)) i):=by
 funext i
 rw[uO a b]
 by_cases h:i=d
 ·subst h
  rw[upd_same,if_pos rfl,lu];rfl
 ·rw[bZ _ _ h,if_neg (by intro e;exact h (Int.ofNat.inj e.symm))]
theorem Mt:(Tryz.prog.info? 181).map (fun i=>(i.zero,i.size,i.bytes))=some (some (.slice none 0 0),1,24):=by kernel_rfl
theorem vG (s:Nat→SV) (k:Nat) (hk:k<4) (W:World):(Instr.index 183 (.agg #[.slice (s 0).A (s 0).n (s 0).c,.slice (s 1).A (s 1).n (s 1).c,.slice (s 2).A (s 2).n (s 2).c,.slice (s 3).A (s 3).n (s 3).c]) (.int .i64 k)).run Tryz.prog W = .ok (.slice (s k).A (s k).n (s k).c) W:=by
 obtain⟨i0,a,_,b,_⟩:=dO Mt
 have e:∀ W,(sizeOf 181).run Tryz.prog W = .ok 1 W:=fun W=>by simp[sizeOf,typeInfo,a,b]
 have d:∀ W,(isAgg 181).run Tryz.prog W = .ok false W:=fun W=>by simp[isAgg,run_underlying Tryz.underlying181]
 rcases (by omega:k=0∨k=1∨k=2∨k=3)with rfl | rfl | rfl | rfl <;> simp[Instr.index,run_underlying Tryz.underlying183,asIntOf,go_sem,e,d]
def mZ (g:Nat) (v0 v1 v2 v3:Value) (W:World):World:=(((W.setCell ⟨g,0,none⟩ v0).setCell ⟨g,1,none⟩ v1).setCell ⟨g,2,none⟩ v2).setCell ⟨g,3,none⟩ v3
theorem oN {g:Nat} {W:World} {v0 v1 v2 v3 b c d e:Value} (a:aA g W) (k0:W.cell? ⟨g,0,none⟩=some b) (k1:W.cell? ⟨g,1,none⟩=some c) (k2:W.cell? ⟨g,2,none⟩=some d) (k3:W.cell? ⟨g,3,none⟩=some e) :
  (mZ g v0 v1 v2 v3 W).cell? ⟨g,0,none⟩=some v0∧(mZ g v0 v1 v2 v3 W).cell? ⟨g,1,none⟩=some v1∧(mZ g v0 v1 v2 v3 W).cell? ⟨g,2,none⟩=some v2∧(mZ g v0 v1 v2 v3 W).cell? ⟨g,3,none⟩=some v3:=by
 have m0:=a.2 0;have m1:=a.2 1;have m2:=a.2 2;have m3:=a.2 3;unfold mZ
 refine⟨?_,?_,?_,?_⟩ <;> go_simp
theorem rG {B g:Nat} {w W:World} {v0 v1 v2 v3:Value} (h:Below B w W) (a:B≤g):Below B w (mZ g v0 v1 v2 v3 W):=(((h.setCell (p:=⟨g,0,none⟩) a _).setCell (p:=⟨g,1,none⟩) a _).setCell (p:=⟨g,2,none⟩) a _).setCell (p:=⟨g,3,none⟩) a _
theorem Ll {B g sz n c:Nat} {W:World} {A:Option Addr} {xs:List Value} {v0 v1 v2 v3:Value} (h:Rd W B sz A n c xs) (l:∀ b o,A=some ⟨b,o,none⟩→b≠g):Rd (mZ g v0 v1 v2 v3 W) B sz A n c xs:=
 ⟨h.len,h.cap,h.one,fun m=>by
  obtain⟨b,o,e,f,i⟩:=h.at_ m;refine⟨b,o,e,f,fun j u hu=>?_⟩;have d:=l b o e
  have a:∀ (k:Nat),(⟨g,k,none⟩:Addr)≠⟨b,o+j,none⟩:=fun k e=>by injection e with e;exact d e.symm
  unfold mZ;rw[oW _ _ _ _ (a 3),oW _ _ _ _ (a 2),oW _ _ _ _ (a 1),oW _ _ _ _ (a 0)]
  exact i j u hu⟩
theorem uQ {g:Nat} {W:World} {v0 v1 v2 v3:Value} : (mZ g v0 v1 v2 v3 W).heap.size=W.heap.size:=by simp[mZ,World.setCell]
set_option maxRecDepth 100000 in
set_option maxHeartbeats 2000000 in
theorem qJ (l:List S3) (n:Nat) (A:Option Addr) (c:Nat) (w:World) (hl:l.length=n) (hn:n≤100000) (hr:Rd w w.heap.size 3 A n c (aP l)) (b:Bool) (hb:bA l=b) :
  Calls Tryz.prog 162 #[.slice A n c] w (KD l b w):=by
 obtain⟨g,hg⟩:∃ g,g=w.heap.size:=⟨_,rfl⟩;have HR:=ah hr;have HL:=ah hl;have HB:=ah hb;have HG:=ah hg;clear hr hl hb hg;go_enter Tryz.func162,Tryz.ntmps162;go_wp2;rw[← HG.o]
 go_loopw [5,12] (fun le i wr=>∃ (k:Nat) (m:Int) (s:Nat→SV),k≤n∧le = .int .i64 m∧i = .int .i64 k∧ai (0≤m)∧ai (kT wr (g+2) 214 2 (g+1) s (fun d=>aS (part (l.take k) d)))∧ai (∀ d:Nat,d<4→(part (l.take k) d).length=(s d).n)∧ai (gZ 0 l↔gZ m (l.drop k))∧ai (aA g wr)∧ai (Kept [(⟨g,0,none⟩,.slice none 0 0),(⟨g,1,none⟩,.slice none 0 0),(⟨g,2,none⟩,.slice none 0 0),(⟨g,3,none⟩,.slice none 0 0)] w wr)) (fun _ i _=>n-(intOf i).toNat)
 case atStart=>
  rw[HG.o];refine⟨0,0,fun _=>L6,by omega,rfl,rfl,Int.le_refl _,kT.nil (by omega) (by simp) ⟨by simp,fun j=>by go_simp⟩ (fun d hd=>?_),fun d _=>rfl,Iff.rfl,⟨by simp;omega,fun j=>by go_simp⟩,?_⟩
  ·rcases (by omega:d=0∨d=1∨d=2∨d=3)with rfl | rfl | rfl | rfl <;> go_simp
  ·exact ((((((Kept.nil w).alloc _).alloc _).af (by go_simp)).af (by go_simp)).af (by go_simp)).af (by go_simp)
 case round=>
  obtain⟨k,m,s,hk,rfl,rfl,HM,R,HN,HI,HF,L⟩:=hrel;have NA:=HF.1;have m0:=HF.2 0;have m1:=HF.2 1;have m2:=HF.2 2;have m3:=HF.2 3;have k0:=L.c0;have k1:=L.c1;have k2:=L.c2;have k3:=L.c3
  by_cases NM:k<n
  ·have NC:k<l.length:=by rw[HL.o];exact NM
   obtain⟨b1,o,rfl,NH,hc⟩:=jB HR NM;obtain⟨q0,q1,q2⟩:=hc k NC;obtain⟨p,hp⟩:∃ p,p=l[k]:=⟨_,rfl⟩;have HD:=ah (Jg NC hp);have HP:ai (p=l[k]):=ah hp;rw[← hp]at q0 q1 q2;obtain⟨V,x,y⟩:=p;have q0:=(L.below.cell (p:=⟨b1,o+k*3,none⟩) NH).trans q0;have q1:=(L.below.cell (p:=⟨b1,o+k*3+1,none⟩) NH).trans q1;have q2:=(L.below.cell (p:=⟨b1,o+k*3+2,none⟩) NH).trans q2;obtain⟨M,N,O,Q⟩:=oN (v0:=.slice none 0 0) (v1:=.slice none 0 0) (v2:=.slice none 0 0) (v3:=.slice none 0 0) HF k0 k1 k2 k3
   have N7:g<(mZ g (.slice none 0 0) (.slice none 0 0) (.slice none 0 0) (.slice none 0 0) wr).heap.size:=by rw[uQ];exact NA
   have J0:=ah ((World.cell?_alloc_lt _ (.cells #[.int .i64 V,.int .i64 x,.int .i64 y] 117) ⟨g,0,none⟩ N7).trans M);have J1:=ah ((World.cell?_alloc_lt _ (.cells #[.int .i64 V,.int .i64 x,.int .i64 y] 117) ⟨g,1,none⟩ N7).trans N);have J2:=ah ((World.cell?_alloc_lt _ (.cells #[.int .i64 V,.int .i64 x,.int .i64 y] 117) ⟨g,2,none⟩ N7).trans O);have J3:=ah ((World.cell?_alloc_lt _ (.cells #[.int .i64 V,.int .i64 x,.int .i64 y] 117) ⟨g,3,none⟩ N7).trans Q);have NG:ai (av w ((mZ g (.slice none 0 0) (.slice none 0 0) (.slice none 0 0) (.slice none 0 0) wr).alloc (.cells #[.int .i64 V,.int .i64 x,.int .i64 y] 117))):=(rG L.below (by rw[HG.o];exact bG)).alloc (by rw[uQ];exact L.below.size) _
   clear M N O Q N7;clear hc hp
   by_cases h1:V<m
   ·have f1:decide (V<m)=true:=by simpa using h1
    have D:ai (b=false):=by
     unfold ai;rw[← HB.o];refine kC fun h=>?_;have:=HI.1 h.rise;rw[HD.o]at this;have:=this.1;omega
    go_wp2;have M:=J0.o;have N:=J1.o;have O:=J2.o;have Q:=J3.o;unfold mZ at M N O Q;refine bodyPost_ret (v:=.tuple #[.agg #[.slice none 0 0,.slice none 0 0,.slice none 0 0,.slice none 0 0],.bool false]) (by simp[results,Tryz.results162,go_sem,M,N,O,Q]) rfl ⟨fun _=>L6,by rw[D.o];rfl,?_,NG⟩;rw[D.o];exact fun d _=>⟨rfl,Rd.nil _⟩
   ·have f1:decide (V<m)=false:=by simpa using h1
    by_cases h2:4≤V
    ·have f2:decide (4≤V)=true:=by simpa using h2
     have D:ai (b=false):=by
      unfold ai;rw[← HB.o];refine kC fun h=>?_;have:=HI.1 h.rise;rw[HD.o]at this;have:=this.2.1;dsimp only at this;omega
     go_wp2;have M:=J0.o;have N:=J1.o;have O:=J2.o;have Q:=J3.o;unfold mZ at M N O Q;refine bodyPost_ret (v:=.tuple #[.agg #[.slice none 0 0,.slice none 0 0,.slice none 0 0,.slice none 0 0],.bool false]) (by simp[results,Tryz.results162,go_sem,M,N,O,Q]) rfl ⟨fun _=>L6,by rw[D.o];rfl,?_,NG⟩;rw[D.o];exact fun d _=>⟨rfl,Rd.nil _⟩
    ·have f2:decide (4≤V)=false:=by simpa using h2
     clear J0 J1 J2 J3 NG;obtain⟨d,rfl⟩:∃ d:Nat,V=(d:Int):=⟨V.toNat,by have:=HM.o;omega⟩
     have Y:(d:Int)<4:=by omega
     have C:d<4:=by omega
     obtain⟨h,hh⟩:∃ h,h=wr.heap.size:=⟨_,rfl⟩;obtain⟨W,hW⟩:∃ W,W=wr.alloc (.cells #[.int .i64 d,.int .i64 x,.int .i64 y] 117):=⟨_,rfl⟩
     have NR:W.heap.size=h+1:=by rw[hW,hh];simp
     have Nz:av wr W:=by rw[hW];exact (bN).alloc (bG) _
     have c0:W.cell? ⟨h,0,none⟩=some (.int .i64 d):=by rw[hW,hh];go_simp
     have c1:W.cell? ⟨h,1,none⟩=some (.int .i64 x):=by rw[hW,hh];go_simp
     have c2:W.cell? ⟨h,2,none⟩=some (.int .i64 y):=by rw[hW,hh];go_simp
     have U:=(R.later Nz).later ((Below.refl W.heap.size W).drew);have NT:=(HN.o d C).symm▸aN (iH (l.take k) d) (by rw[l7];exact Nat.min_le_left _ _)
     obtain⟨A',c',w',r1,r2,r3,r4,r5⟩:=U.push Tryz.underlying181 wZ rfl (by omega) (by omega) C W.heap.size rfl [.int .i64 x,.int .i64 y] rfl (by intro u hu;simp at hu;rcases hu with rfl | rfl <;> rfl) (by omega)
     have NE:(s d).val.ownBlock≠some h:=fun e=>by have:=(R.lt C e).2;omega
     have F:h<W.drew.heap.size:=by show h<W.heap.size;omega
     have i0:w'.cell? ⟨h,0,none⟩=some (.int .i64 d):=(r2 h NE F 0).trans c0;have i1:w'.cell? ⟨h,1,none⟩=some (.int .i64 x):=(r2 h NE F 1).trans c1;have i2:w'.cell? ⟨h,2,none⟩=some (.int .i64 y):=(r2 h NE F 2).trans c2;have hl1:g+1<W.heap.size:=U.free.1;have hl2:h<W.heap.size:=F
     have hgh:g+1<h:=by have:=R.free.1;omega
     have hgh2:h≠g+1:=by omega
     have hgh3:¬(g+1=h):=by omega
     have ig:w'.cell? ⟨g+1,d,none⟩=some (.slice (s d).A (s d).n (s d).c):=(r2 (g+1) (fun e=>by have:=(R.lt C e).1;omega) (U.free.1) d).trans (U.cell d C);have cg:W.cell? ⟨g+1,d,none⟩=some (.slice (s d).A (s d).n (s d).c):=U.cell d C;have mg:=r3.2 d
     have NJ:ai (gZ 0 l↔gZ (d:Int) (l.drop (k+1))):=by
      refine Iff.trans HI ?_;rw[HD.o];exact⟨fun h=>h.2.2,fun h=>⟨by show m≤(d:Int);omega,Y,h⟩⟩
     have N9:ai (∀ i:Nat,i<4→(part (l.take (k+1)) i).length=(upd s d ⟨A',(s d).n+1,c'⟩ i).n):=fun i hi=>by
      rw[uO NC HP.o]
      by_cases he:i=d
      ·subst he
       rw[upd_same,if_pos rfl,bP,HN.o i hi];rfl
      ·rw[bZ _ _ he,if_neg (by intro e;exact he (Int.ofNat.inj e.symm)),HN.o i hi]
     have r:ai (kT (w'.setCell ⟨g+1,d,none⟩ (.slice A' ((s d).n+1) c')) (g+2) 214 2 (g+1) (upd s d ⟨A',(s d).n+1,c'⟩) (fun i=>aS (part (l.take (k+1)) i))):=by
      have:=r5;rw[Kz NC HP.o]at this;exact this
     have X:Below (g+2) wr w':=((Below.trans (Nz.mono R.high) ((bN).drew))).trans r4;have f:ai (aA g (w'.setCell ⟨g+1,d,none⟩ (.slice A' ((s d).n+1) c'))):=aA.set ⟨cO NA X.size,fun j=>(X.frozen (p:=⟨g,j,none⟩) (by show g<g+2;omega)).trans (HF.2 j)⟩ _ _
     have t:ai (Kept [(⟨g,0,none⟩,.slice none 0 0),(⟨g,1,none⟩,.slice none 0 0),(⟨g,2,none⟩,.slice none 0 0),(⟨g,3,none⟩,.slice none 0 0)] w (w'.setCell ⟨g+1,d,none⟩ (.slice A' ((s d).n+1) c'))):=by
      refine Kept.set ⟨L.below.trans (X.mono (by rw[HG.o];omega)),fun q hq=>?_⟩ (by show w.heap.size≤g+1;rw[HG.o];omega) (by simp) _
      have NN:q.1.block=g:=by simp at hq;rcases hq with rfl | rfl | rfl | rfl <;> rfl
      exact⟨by rw[NN];exact cO NA X.size,(X.cell (p:=q.1) (by rw[NN];omega)).trans (L.2 q hq).2⟩
     have B:=ah r1;have HW:=ah hW;have HH:=ah hh;obtain⟨sA,sn,sc,hs⟩:∃ sA sn sc,s d=⟨sA,sn,sc⟩:=⟨_,_,_,rfl⟩;rw[hs]at B cg ig r N9 f t;have NK:=ah hs;clear r1 r2 r3 r4 r5 X NE F NR Nz hW hh U NT k0 k1 k2 k3 m0 m1 m2 m3 hs R HN HF L HI HD NA;dsimp only at B cg ig r N9 f t;go_wp2;rw[← HW.o,← HH.o];clear q0 q1 q2;refine Rk (S:=fun W=>W.cell? ⟨h,0,none⟩=some (.int .i64 d)∧W.cell? ⟨h,1,none⟩=some (.int .i64 x)∧W.cell? ⟨h,2,none⟩=some (.int .i64 y)) (fun hHeld=>?_);refine T4 0 28 1 29 2 30 3 31 ?_;refine T4 4 32 6 34 7 35 8 36 ?_;refine T2 9 37 10 38 ?_;refine wpAnyH_ready (rs:=[5,11]) (by kernel_rfl) (by simp) ?_;refine AllReadyH.cons (o:=⟨some 33,_,_,_,_,_⟩) rfl (fun K z=>?_) (AllReadyH.cons (o:=⟨some 39,_,_,_,_,_⟩) rfl (fun K z=>?_) AllReadyH.nil)
     ·go_simp
      refine Th z ?_ (fun a=>?_)
      ·exact hHeld
      clear z K hHeld;have hHeld:=a;clear a;refine Tc 11 (fun K z=>?_);go_simp;refine Th z ?_ (fun a=>?_)
      ·(try dsimp only);go_keep
      clear z K hHeld;have hHeld:=a;clear a;refine Tc 12 (fun K z=>?_);refine bg _ _ _ rfl rfl rfl B ?_;clear hHeld;refine Th z ?_ (fun hHeld=>?_)
      ·exact⟨i0,i1,i2⟩
      clear z K;refine Tk 13 41 ?_;refine Tc 14 (fun K z=>?_);go_simp;refine Th z ?_ (fun a=>?_)
      ·(try dsimp only);go_keep
      clear z K hHeld;have hHeld:=a;clear a;refine Td ?_;clear B c0 c1 c2 i0 i1 i2 cg ig mg hHeld;go_wp2;go_roundw
      case rel=>exact⟨k+1,d,_,by omega,rfl,by go_num,(by unfold ai;omega),r,N9,NJ,f,t⟩
      case measure=>simp[intOf];omega
     ·go_simp
      refine Th z ?_ (fun a=>?_)
      ·(try dsimp only);go_keep
      clear z K hHeld;have hHeld:=a;clear a;refine Tc 5 (fun K z=>?_);go_simp;refine Th z ?_ (fun a=>?_)
      ·exact hHeld
      clear z K hHeld;have hHeld:=a;clear a;refine Tc 12 (fun K z=>?_);refine bg _ _ _ rfl rfl rfl B ?_;clear hHeld;refine Th z ?_ (fun hHeld=>?_)
      ·exact⟨i0,i1,i2⟩
      clear z K;refine Tk 13 41 ?_;refine Tc 14 (fun K z=>?_);go_simp;refine Th z ?_ (fun a=>?_)
      ·(try dsimp only);go_keep
      clear z K hHeld;have hHeld:=a;clear a;refine Td ?_;clear B c0 c1 c2 i0 i1 i2 cg ig mg hHeld;go_wp2;go_roundw
      case rel=>exact⟨k+1,d,_,by omega,rfl,by go_num,(by unfold ai;omega),r,N9,NJ,f,t⟩
      case measure=>simp[intOf];omega
  ·obtain rfl:k=n:=by omega
   have NF:l.take k=l:=eO (by rw[HL.o];omega);have N8:gZ 0 l:=HI.2 (by rw[List.drop_eq_nil_of_le (by rw[HL.o];omega)];trivial);rw[NF]at R HN;have NQ:=ah N8;have p0:=R.cell 0 (by omega);have p1:=R.cell 1 (by omega);have p2:=R.cell 2 (by omega);have p3:=R.cell 3 (by omega);clear NF N8 HI HM HR k0 k1 k2 k3 m0 m1 m2 m3;go_wp2;clear p0 p1 p2 p3
   go_loopw [44] (fun i wr=>∃ (d:Nat),d≤4∧i = .int .i64 d∧ai (∀ j:Nat,j<d→ak (part l j)=true)∧ai (kT wr (g+2) 214 2 (g+1) s (fun d=>aS (part l d)))∧ai (aA g wr)∧ai (Kept [(⟨g,0,none⟩,.slice none 0 0),(⟨g,1,none⟩,.slice none 0 0),(⟨g,2,none⟩,.slice none 0 0),(⟨g,3,none⟩,.slice none 0 0)] w wr)) (fun i _=>4-(intOf i).toNat)
   case atStart=>exact⟨0,by omega,rfl,fun j hj=>by omega,R,HF,L⟩
   case round=>
    obtain⟨d,hd,rfl,Ny,r,f,t⟩:=hrel;have hgl2:=f.1;clear R HF L
    by_cases Y:d<4
    ·have hix:=vG s d Y
     have N_:=ah (fD (part l d) (s d).n (s d).A (s d).c wr (HN.o d Y) (by have:=HN.o d Y;have:=iH l d;have:=HL.o;omega) (r.rd Y))
     cases Z:ak (part l d)with
     | false=>
      rw[Z]at N_
      have D:ai (b=false):=by
       unfold ai;rw[← HB.o];refine kC fun h=>?_;have:=h.part d (by unfold ny;omega)
       have h2:ak (part l d)=true:=by unfold ak;exact aJ this
       rw[Z]at h2
       cases h2
      clear Z;go_wp2_with (go_at_call 190;refine N_.mono ?_;rintro e w3 ⟨rfl,J⟩;have G:=f.later J;have H:=t.later J;have m0:=G.2 0;have m1:=G.2 1;have m2:=G.2 2;have m3:=G.2 3;have k0:=H.c0;have k1:=H.c1;have k2:=H.c2;have k3:=H.c3);obtain⟨M,N,O,Q⟩:=oN (v0:=.slice none 0 0) (v1:=.slice none 0 0) (v2:=.slice none 0 0) (v3:=.slice none 0 0) G k0 k1 k2 k3;unfold mZ at M N O Q;refine bodyPost_ret (v:=.tuple #[.agg #[.slice none 0 0,.slice none 0 0,.slice none 0 0,.slice none 0 0],.bool false]) (by simp[results,Tryz.results162,go_sem,M,N,O,Q]) rfl ⟨fun _=>L6,by rw[D.o];rfl,?_,rG H.below (by rw[HG.o];exact bG)⟩;rw[D.o];exact fun d _=>⟨rfl,Rd.nil _⟩
     | true=>
      rw[Z]at N_
      have NP:ai (∀ j:Nat,j<d+1→ak (part l j)=true):=fun j hj=>by
       rcases (by omega:j<d∨j=d)with h | rfl
       ·exact Ny.o j h
       ·exact Z
      clear Z;go_wp2_with (go_at_call 190;refine N_.mono ?_;rintro e w3 ⟨rfl,J⟩;have NK:=ah (r.later J);have G:=ah (f.later J);have H:=ah (t.later J);clear J);go_roundw
      case rel=>exact⟨d+1,by omega,by go_num,NP,NK,G,H⟩
      case measure=>simp[intOf];omega
    ·have NS:d=4:=by omega
     subst NS
     have NI:ai (b=true):=by
      unfold ai;rw[← HB.o];refine fK ⟨NQ,fun e he=>?_⟩
      rcases zl he with rfl | rfl | rfl | rfl
      ·exact jH (Ny.o 0 (by omega))
      ·exact jH (Ny.o 1 (by omega))
      ·exact jH (Ny.o 2 (by omega))
      ·exact jH (Ny.o 3 (by omega))
     have p0:=r.cell 0 (by omega);have p1:=r.cell 1 (by omega);have p2:=r.cell 2 (by omega);have p3:=r.cell 3 (by omega);have m0:=f.2 0;have m1:=f.2 1;have m2:=f.2 2;have m3:=f.2 3;have k0:=t.c0;have k1:=t.c1;have k2:=t.c2;have k3:=t.c3;go_wp2;obtain⟨M,N,O,Q⟩:=oN (v0:=.slice (s 0).A (s 0).n (s 0).c) (v1:=.slice (s 1).A (s 1).n (s 1).c) (v2:=.slice (s 2).A (s 2).n (s 2).c) (v3:=.slice (s 3).A (s 3).n (s 3).c) f k0 k1 k2 k3;unfold mZ at M N O Q;refine bodyPost_ret (v:=.tuple #[.agg #[.slice (s 0).A (s 0).n (s 0).c,.slice (s 1).A (s 1).n (s 1).c,.slice (s 2).A (s 2).n (s 2).c,.slice (s 3).A (s 3).n (s 3).c],.bool true]) (by simp[results,Tryz.results162,go_sem,M,N,O,Q]) rfl ⟨s,by rw[NI.o],?_,rG t.below (by rw[HG.o];exact bG)⟩
     rw[NI.o];refine fun d hd=>⟨HN d hd,?_⟩;refine ((Ll (r.rd hd) (fun b o e hbg=>?_)).more (Nat.le_of_eq uQ.symm):Rd (mZ g _ _ _ _ wr) _ _ _ _ _ _);have:=(r.lt hd (b:=b) (by unfold SV.val;rw[e];rfl)).1;omega
end Cx
end Go.Proofs.YtgeafpaognhokaaGreat
