/- What is known: is a dot there. -/
import Derived.Test.YtgeafpaognhokaaGreatG00
import Derived.Test.YtgeafpaognhokaaGreatCtx1
set_option maxRecDepth 100000
set_option maxHeartbeats 4000000
namespace Go.Proofs.YtgeafpaognhokaaGreat
open ChangeShapes WideShapes ChangeAt RowKit
namespace Cs
open Tr Cx Sp Rw
def kS (s:S3):Int×Int:=(s.1,s.2.2)
theorem Fs {s:S3} {c:List S3} (h:aH (s::c)):aH c:=by
 refine⟨h.rise.2.2.mono h.rise.1,fun d hd=>?_⟩;have a:=h.part d hd;rw[eu]at a
 split at a
 ·obtain⟨g1,g2,_,b⟩:=a
  exact b.mono (by omega)
 ·exact a
def Nk (s t:S3):Prop:=s.1<t.1∨(s.1=t.1∧s.2.2<t.2.1)
theorem Lg {l:List S3} (h:aH l):∀ s∈l,s.2.1≤s.2.2:=fun s a=>by
 have b:=h.rise.mem s a;have:=(h.part s.1 b).mem s.2 (jA.2 a);omega
theorem Eo:∀ {l:List S3},aH l→l.Pairwise Nk
 | [],_=>List.Pairwise.nil
 | s::c,h=>by
  refine fq.2 ⟨fun t b=>?_,Eo (Fs h)⟩;have h1:=h.rise.2.2.mem t b;have f:=h.rise.1;have g:=h.rise.2.1;unfold Nk
  by_cases e:s.1=t.1
  ·refine .inr ⟨e,?_⟩
   have a:=h.part s.1 ⟨f,g⟩;rw[eu,if_pos rfl]at a;obtain⟨g1,g2,_,d⟩:=a;have:=d.mem t.2 (jA.2 (by rw[e];exact b));omega
  ·exact .inl (by omega)
theorem Kc {l:List S3} (h:aH l):l.Pairwise fun s t=>ic (kS s) (kS t):=by
 refine (List.Pairwise.and_mem.1 (Eo h)).imp fun a=>?_;obtain⟨_,b,c⟩:=a;have h5:=Lg h _ b;unfold ic kS;unfold Nk at c;dsimp only;omega
theorem Ju {l:List S3} {d n:Int} : aD l d n=true↔∃ s∈l,s.1=d∧s.2.1≤n∧n≤s.2.2:=by
 unfold aD;rw[lM];constructor
 ·rintro⟨r,c,a,b⟩
  exact⟨(d,r),jA.1 c,rfl,a,b⟩
 ·rintro⟨s,e,rfl,a,b⟩
  exact⟨s.2,jA.2 e,a,b⟩
structure FQ (l:List S3) (x:Int×Int) (lo hi:Nat):Prop where
 low:∀ (i:Nat) (h:i<l.length),i<lo→ic (kS l[i]) x
 high:∀ (i:Nat) (h:i<l.length),hi≤i→¬ic (kS l[i]) x
theorem FQ.start (l:List S3) (x:Int×Int) {n:Nat} (h:l.length=n):FQ l x 0 n:=⟨fun _ _ h=>absurd h (Nat.not_lt_zero _),fun i hi hn=>by omega⟩
theorem FQ.up {l:List S3} {x:Int×Int} {e hi m:Nat} (h:FQ l x e hi) (d:l.Pairwise fun s t=>ic (kS s) (kS t)) (c:m<l.length) (a:ic (kS l[m]) x):FQ l x (m+1) hi:=
 ⟨fun i hi hlt=>by
  by_cases b:i=m
  ·subst b;exact a
  ·exact fV.tr _ _ _ (tV.1 d i m hi c (by omega)) a,h.high⟩
theorem FQ.down {l:List S3} {x:Int×Int} {b hi m:Nat} (h:FQ l x b hi) (f:l.Pairwise fun s t=>ic (kS s) (kS t)) (e:m<l.length) (a:¬ic (kS l[m]) x):FQ l x b m:=
 ⟨h.low,fun i hi hlt=>by
  by_cases d:i=m
  ·subst d;exact a
  ·exact fun c=>a (fV.tr _ _ _ (tV.1 f m i e hi (by omega)) c)⟩
theorem FQ.has {l:List S3} {d n:Int} {i:Nat} (h:FQ l (d,n) i i) (q:aH l):aD l d n=true↔∃ hi:i<l.length,(l[i]).1=d∧(l[i]).2.1≤n:=by
 rw[Ju];constructor
 ·rintro⟨s,r,a,b,c⟩
  obtain⟨j,m,rfl⟩:=qz r
  have hij:i≤j:=by
   rcases rU j i with f | f
   ·have g:=h.low j m f
    unfold ic kS at g;dsimp only at g;omega
   ·exact f
  have hi:i<l.length:=by omega
  have k:=h.high i hi (bG);unfold ic kS at k;dsimp only at k
  by_cases e:i=j
  ·subst e
   exact⟨hi,a,b⟩
  ·have p:=tV.1 (Eo q) i j hi m (by omega)
   unfold Nk at p;omega
 ·rintro⟨hi,a,b⟩
  have c:=h.high i hi (bG);unfold ic kS at c;dsimp only at c;exact⟨l[i],bT hi,a,b,by omega⟩
theorem oz {a n b m:Int} : Dt.lH a n b m<0↔ic (a,n) (b,m):=by
 unfold Dt.lH ic;dsimp only
 by_cases c:a<b∨(a=b∧n<m)
 ·rw[if_pos c];simp[c]
 ·rw[if_neg c]
  by_cases d:a=b∧n=m
  ·rw[if_pos d];simp[c]
  ·rw[if_neg d];simp[c]
theorem r_ (a f t d n:Int) (w:World):Calls Tryz.prog 215 #[.agg #[.int .i64 a,.int .i64 f,.int .i64 t],.agg #[.int .i64 d,.int .i64 n]] w fun e w'=>e = .returned (.int .i64 (Dt.lH a t d n))∧av w w':=by
 have g:=ah (Dt.bC w #[.int .i64 a,.int .i64 f,.int .i64 t] #[.int .i64 d,.int .i64 n] 117 37);go_enter Tryz.func215,Tryz.ntmps215;go_wp2_with (go_at_call 134;refine (Dt.pO _ _ _ _ _).mono ?_;rintro e w' ⟨rfl,b⟩;have c:=ah b;clear b);go_ret;exact⟨rfl,g.trans (c.mono g.size)⟩
theorem D6 (l:List S3) (x:Nat) (A:Option Addr) (cc:Nat) (d n:Int) (w:World) (hl:l.length=x) (hn:x≤1000000) (hr:Rd w w.heap.size 3 A x cc (aP l)) (B:aH l) :
  Calls Tryz.prog 214 #[.slice A x cc,.agg #[.int .i64 d,.int .i64 n],.func (.func 215) #[] #[]] w fun e w'=>∃ (i:Nat) (f:Bool),e = .returned (.tuple #[.int .i64 i,.bool f])∧i≤x∧FQ l (d,n) i i∧av w w':=by
 have HL:=ah hl;have Y:ai (FQ l (d,n) 0 x):=FQ.start _ _ hl;have HR:=ah hr;have N:=ah (Kc B);clear hr B hl;obtain⟨q,R⟩:∃ q,q=w.heap.size:=⟨_,rfl⟩;obtain⟨W0,y⟩:∃ W,W=w.alloc (.cells #[.int .i64 d,.int .i64 n] 37):=⟨_,rfl⟩
 have q0:W0.cell? ⟨q,0,none⟩=some (.int .i64 d):=by rw[y,R];go_simp
 have q1:W0.cell? ⟨q,1,none⟩=some (.int .i64 n):=by rw[y,R];go_simp
 have X:=ah (((Kept.a_ (show av w W0 by rw[y];exact Dt.ay _ _ _)).af q1).af q0);have HQ:=ah R;have Z:=ah y;clear R y q0 q1;go_enter Tryz.func214,Tryz.ntmps214;go_wp2_with fail;rw[← HQ.o,← Z.o]
 go_loopw [9,10] (fun a b wr=>∃ C hi:Nat,a = .int .i64 C∧b = .int .i64 hi∧C≤hi∧hi≤x∧ai (FQ l (d,n) C hi)∧ai (Kept [(⟨q,0,none⟩,.int .i64 d),(⟨q,1,none⟩,.int .i64 n)] w wr)) (fun a b _=>(intOf b).toNat-(intOf a).toNat)
 case atStart=>exact⟨0,x,rfl,rfl,Nat.zero_le _,bG,Y,X⟩
 case round=>
  obtain⟨C,hi,rfl,rfl,hlh,G,Q,j⟩:=hrel
  by_cases hlt:C<hi
  ·obtain⟨m,hm⟩:∃ m,m=(C+hi) / 2:=⟨_,rfl⟩
   have hmm:((C:Int)+(hi:Int)) / 2=(m:Int):=by omega
   have hm1:m<x:=by omega
   have hm2:C≤m:=by omega
   have hm3:m<hi:=by omega
   clear hm;obtain⟨b,o,rfl,t,v⟩:=jB HR (m:=m) (by omega)
   have z:m<l.length:=by rw[HL.o];omega
   obtain⟨c0,c1,c2⟩:=v _ z;obtain⟨s,B⟩:∃ s,s=l[m]:=⟨_,rfl⟩;rw[← B]at c0 c1 c2;obtain⟨H,U,J⟩:=s;dsimp only at c0 c1 c2;have k:=j.below;have c0:=(k.cell (p:=⟨b,o+m*3,none⟩) t).trans c0;have c1:=(k.cell (p:=⟨b,o+m*3+1,none⟩) t).trans c1;have c2:=(k.cell (p:=⟨b,o+m*3+2,none⟩) t).trans c2;have t0:=j.c0;have t1:=j.c1;have g:=ah ((((j.af c2).af c1).af c0).drew);have M:=ah B;clear v B k;obtain⟨c,v⟩:∃ c,Dt.lH H J d n=c:=⟨_,rfl⟩;have O:=ah v
   have L:ai (ic (kS l[m]) (d,n)↔c<0):=ah (by rw[← M.o,← v];exact oz.symm)
   clear v
   by_cases u:c<0
   ·have f1:decide (c<0)=true:=aJ u
    have F:=ah (Q.up N z (L.2 u));go_wp2_with fail;refine Rk (S:=fun W=>W.cell? ⟨b,o+m*3,none⟩=some (.int .i64 H)∧W.cell? ⟨b,o+m*3+1,none⟩=some (.int .i64 U)∧W.cell? ⟨b,o+m*3+2,none⟩=some (.int .i64 J)∧W.cell? ⟨q,0,none⟩=some (.int .i64 d)∧W.cell? ⟨q,1,none⟩=some (.int .i64 n)) (fun hHeld=>?_);refine T4 0 24 1 25 2 26 3 27 ?_;refine T2 4 28 5 29 ?_;refine Tc 6 (fun K D=>?_);go_simp;(go_at_call 215;refine (r_ _ _ _ _ _ _).mono ?_);rw[O.o];rintro e v1 ⟨rfl,r⟩;have g:=ah (g.later r);clear r;clear hHeld;refine Th D ?_ (fun hHeld=>?_)
    ·exact⟨g.c0,g.c1,g.c2,g.c3,g.c4⟩
    clear D K;refine Tk 7 31 ?_;refine Td ?_;clear hHeld;go_wp2_with fail;go_roundw
    case rel=>exact⟨m+1,hi,by go_num,rfl,by omega,G,F,g.tail.tail.tail⟩
    case measure=>simp[intOf];omega
   ·have f1:decide (c<0)=false:=aM u
    have F:=ah (Q.down N z (fun h=>u (L.1 h)));go_wp2_with fail;refine Rk (S:=fun W=>W.cell? ⟨b,o+m*3,none⟩=some (.int .i64 H)∧W.cell? ⟨b,o+m*3+1,none⟩=some (.int .i64 U)∧W.cell? ⟨b,o+m*3+2,none⟩=some (.int .i64 J)∧W.cell? ⟨q,0,none⟩=some (.int .i64 d)∧W.cell? ⟨q,1,none⟩=some (.int .i64 n)) (fun hHeld=>?_);refine T4 0 24 1 25 2 26 3 27 ?_;refine T2 4 28 5 29 ?_;refine Tc 6 (fun K D=>?_);go_simp;(go_at_call 215;refine (r_ _ _ _ _ _ _).mono ?_);rw[O.o];rintro e v1 ⟨rfl,r⟩;have g:=ah (g.later r);clear r;clear hHeld;refine Th D ?_ (fun hHeld=>?_)
    ·exact⟨g.c0,g.c1,g.c2,g.c3,g.c4⟩
    clear D K;refine Tk 7 31 ?_;refine Td ?_;clear hHeld;go_wp2_with fail;go_roundw
    case rel=>exact⟨C,m,rfl,rfl,by omega,by omega,F,g.tail.tail.tail⟩
    case measure=>simp[intOf];omega
  ·obtain rfl:hi=C:=by omega
   by_cases hn:hi<x
   ·have f1:decide ((hi:Int)<(x:Int))=true:=aJ (by omega)
    obtain⟨b,o,rfl,t,v⟩:=jB HR (m:=hi) (by omega)
    have z:hi<l.length:=by rw[HL.o];omega
    obtain⟨c0,c1,c2⟩:=v _ z;obtain⟨s,B⟩:∃ s,s=l[hi]:=⟨_,rfl⟩;rw[← B]at c0 c1 c2;obtain⟨H,U,J⟩:=s;dsimp only at c0 c1 c2;have k:=j.below;have c0:=(k.cell (p:=⟨b,o+hi*3,none⟩) t).trans c0;have c1:=(k.cell (p:=⟨b,o+hi*3+1,none⟩) t).trans c1;have c2:=(k.cell (p:=⟨b,o+hi*3+2,none⟩) t).trans c2;have t0:=j.c0;have t1:=j.c1;have g:=ah ((((j.af c2).af c1).af c0).drew);have M:=ah B;clear v B k;obtain⟨c,v⟩:∃ c,Dt.lH H J d n=c:=⟨_,rfl⟩;have O:=ah v;clear v;go_wp2_with fail;refine Rk (S:=fun W=>W.cell? ⟨b,o+hi*3,none⟩=some (.int .i64 H)∧W.cell? ⟨b,o+hi*3+1,none⟩=some (.int .i64 U)∧W.cell? ⟨b,o+hi*3+2,none⟩=some (.int .i64 J)∧W.cell? ⟨q,0,none⟩=some (.int .i64 d)∧W.cell? ⟨q,1,none⟩=some (.int .i64 n)) (fun hHeld=>?_)
    refine T4 0 35 1 36 2 37 3 38 ?_;refine T4 4 39 5 40 6 41 7 42 ?_;refine T3 8 43 9 44 10 45 ?_;refine Tc 11 (fun K D=>?_);go_simp;(go_at_call 215;refine (r_ _ _ _ _ _ _).mono ?_);rw[O.o];rintro e v1 ⟨rfl,r⟩;have g:=ah (g.later r);clear r;clear hHeld;refine Th D ?_ (fun hHeld=>?_)
    ·exact⟨g.c0,g.c1,g.c2,g.c3,g.c4⟩
    clear D K;refine T4 12 47 13 48 14 6 15 7 ?_;refine Td ?_;clear hHeld;go_wp2_with fail;go_ret2;exact⟨hi,(c==0),by simp,G,Q,g.below⟩
   ·have f1:decide ((hi:Int)<(x:Int))=false:=aM (by omega)
    have V:ai (av w wr.drew):=j.drew.below;go_wp2_with fail;refine Rg (S:=fun _=>True) (by trivial) (fun hHeld=>?_);refine T4 0 35 1 36 2 37 3 38 ?_;refine Tk 4 39 ?_;refine U4 5 40 6 41 7 42 8 43 ?_;refine U4 9 44 10 45 11 46 12 47 ?_;refine T3 13 48 14 6 15 7 ?_;refine Td ?_;clear hHeld;go_wp2_with fail;go_ret2;exact⟨hi,false,by simp,G,Q,V⟩
theorem wD (l:List S3) (r:Nat) (A:Option Addr) (O:Nat) (d n:Int) (w:World) (Y:l.length=r) (hn:r≤1000000) (Z:Rd w w.heap.size 3 A r O (aP l)) (C:aH l) :
  Calls Tryz.prog 181 #[.slice A r O,.agg #[.int .i64 d,.int .i64 n]] w fun e w'=>e = .returned (.bool (aD l d n))∧av w w':=by
 obtain⟨z,Q⟩:∃ z,aD l d n=z:=⟨_,rfl⟩;rw[Q];have V:=ah Q;have L:=ah Y;have U:=ah Z;have t:=ah C;clear Z C Y Q;obtain⟨p,H⟩:∃ p,p=w.heap.size:=⟨_,rfl⟩;obtain⟨G,j⟩:∃ W,W=w.alloc (.cells #[.int .i64 d,.int .i64 n] 37):=⟨_,rfl⟩
 have p0:G.cell? ⟨p,0,none⟩=some (.int .i64 d):=by rw[j,H];go_simp
 have p1:G.cell? ⟨p,1,none⟩=some (.int .i64 n):=by rw[j,H];go_simp
 have k:av w G:=by rw[j];exact Dt.ay _ _ _
 have J:=ah (((Kept.a_ k).af p1).af p0);have M:=ah (D6 l r A O d n G L hn ((U.below k).more k.size) t);have HP:=ah H;have N:=ah j;clear H j k;go_enter Tryz.func181,Tryz.ntmps181;go_wp2_with fail;rw[← HP.o,← N.o];refine M.mono ?_;rintro e w2 ⟨i,f,rfl,hin,D,x⟩;have c:=ah (J.later x);have v:=ah D;have t0:=c.c0;have t1:=c.c1;clear D x p0 p1
 by_cases hlt:i<r
 ·obtain⟨b,o,rfl,y,X⟩:=jB U (m:=i) (by omega)
  have B:i<l.length:=by rw[L.o];omega
  obtain⟨c0,c1,_⟩:=X _ B;have u:=c.below;have c0:=(u.cell (p:=⟨b,o+i*3,none⟩) y).trans c0;have c1:=(u.cell (p:=⟨b,o+i*3+1,none⟩) y).trans c1
  have q:aD l d n=true↔(l[i]).1=d∧(l[i]).2.1≤n:=by
   rw[v.o.has t.o];exact⟨fun h=>h.2,fun h=>⟨B,h⟩⟩
  rw[V.o]at q;obtain⟨s,C⟩:∃ s,s=l[i]:=⟨_,rfl⟩;rw[← C]at c0 c1 q;obtain⟨F,R,sv⟩:=s;dsimp only at c0 c1 q;clear X C u;have f0:decide ((i:Int)<(r:Int))=true:=aJ (by omega)
  by_cases hd:F=d
  ·have a:z=decide (R≤n):=by
    cases z with
    | true=>exact (aJ (q.1 rfl).2).symm
    | false=>
     symm
     apply aM
     intro h
     cases q.2 ⟨hd,h⟩
   have g:=ah a
   have f1:(F==d)=true:=by rw[beq_iff_eq];exact hd
   clear q a hd;go_wp2_with fail;refine Rk (S:=fun W=>W.cell? ⟨b,o+i*3,none⟩=some (.int .i64 F)∧W.cell? ⟨b,o+i*3+1,none⟩=some (.int .i64 R)∧W.cell? ⟨p,0,none⟩=some (.int .i64 d)∧W.cell? ⟨p,1,none⟩=some (.int .i64 n)) (fun hHeld=>?_);refine T4 0 13 1 14 2 15 3 16 ?_;refine T4 4 17 5 18 6 19 7 20 ?_;refine T4 8 21 9 22 10 23 11 24 ?_;refine T4 12 25 13 26 14 27 15 28 ?_;refine T4 16 29 17 30 18 31 19 32 ?_;refine T4 20 33 21 34 22 35 23 36 ?_;refine Tk 24 4 ?_;refine Td ?_;clear hHeld;go_wp2_with fail;go_ret;exact⟨by rw[g.o];rfl,c.drew.below⟩
  ·have a:z=false:=by
    cases z with
    | true=>exact absurd (q.1 rfl).1 hd
    | false=>rfl
   have g:=ah a
   have f1:(F==d)=false:=by rw[gP];exact hd
   clear q a hd;go_wp2_with fail;refine Rk (S:=fun W=>W.cell? ⟨b,o+i*3,none⟩=some (.int .i64 F)∧W.cell? ⟨b,o+i*3+1,none⟩=some (.int .i64 R)∧W.cell? ⟨p,0,none⟩=some (.int .i64 d)∧W.cell? ⟨p,1,none⟩=some (.int .i64 n)) (fun hHeld=>?_);refine T4 0 13 1 14 2 15 3 16 ?_;refine T4 4 17 5 18 6 19 7 20 ?_;refine T4 8 21 9 22 10 23 11 24 ?_;refine T3 12 25 13 26 14 27 ?_;refine U4 15 28 16 29 17 30 18 31 ?_;refine U4 19 32 20 33 21 34 22 35 ?_;refine T2 23 36 24 4 ?_;refine Td ?_;clear hHeld;go_wp2_with fail;go_ret;exact⟨by rw[g.o];rfl,c.drew.below⟩
 ·have a:z=false:=by
   cases z with
   | false=>rfl
   | true=>
    obtain⟨h,_⟩:=(v.has t).1 V.o;have:=L.o;omega
  have g:=ah a;have f0:decide ((i:Int)<(r:Int))=false:=aM (by omega);clear a;go_wp2_with fail;refine Rg (S:=fun _=>True) (by trivial) (fun hHeld=>?_);refine T4 0 13 1 14 2 15 3 16 ?_;refine Tk 4 17 ?_;refine U4 5 18 6 19 7 20 8 21 ?_;refine U4 9 22 10 23 11 24 12 25 ?_;refine T2 13 26 14 27 ?_;refine U4 15 28 16 29 17 30 18 31 ?_;refine U4 19 32 20 33 21 34 22 35 ?_;refine T2 23 36 24 4 ?_;refine Td ?_;clear hHeld;go_wp2_with fail;go_ret;exact⟨by rw[g.o];rfl,c.drew.below⟩
end Cs
end Go.Proofs.YtgeafpaognhokaaGreat
