/- What is known: two rising lists of entries, side by side. -/
import Derived.Test.YtgeafpaognhokaaGreatG00
import Derived.Test.YtgeafpaognhokaaGreatG20
namespace Go.Proofs.YtgeafpaognhokaaGreat
open ChangeShapes WideShapes ChangeAt RowKit
namespace Cs
open Tr Cx Sp Rw
theorem A_ {a n b m:Int} : 0<Dt.lH a n b m↔h_ (b,m) (a,n):=by
 unfold Dt.lH h_;dsimp only
 by_cases c:a<b∨(a=b∧n<m)
 ·rw[if_pos c];simp;omega
 ·rw[if_neg c]
  by_cases d:a=b∧n=m
  ·rw[if_pos d];simp;omega
  ·rw[if_neg d];simp;omega
section
variable {l:List (Addr×Value)} {w0 W w':World} {p:Nat}
theorem _root_.Go.Proofs.YtgeafpaognhokaaGreat.Kept.past4 (K:Kept l w0 W) (c:w0.heap.size≤p) (b:∀ x∈l,x.1.block≠p) (v0 v1 v2 v3:Value):Kept l w0 ((((W.setCell ⟨p,0,none⟩ v0).setCell ⟨p,1,none⟩ v1).setCell ⟨p,2,none⟩ v2).setCell ⟨p,3,none⟩ v3):=
 (((K.set (a:=⟨p,0,none⟩) c b v0).set (a:=⟨p,1,none⟩) c b v1).set (a:=⟨p,2,none⟩) c b v2).set (a:=⟨p,3,none⟩) c b v3
theorem _root_.Go.Proofs.YtgeafpaognhokaaGreat.Kept.set4 (K:Kept l w0 W) (f:w0.heap.size≤p) (e:∀ x∈l,x.1.block≠p) (a:∃ u,W.cell? ⟨p,0,none⟩=some u) (b:∃ u,W.cell? ⟨p,1,none⟩=some u) (c:∃ u,W.cell? ⟨p,2,none⟩=some u) (d:∃ u,W.cell? ⟨p,3,none⟩=some u) (v0 v1 v2 v3:Value):Kept ((⟨p,0,none⟩,v0)::(⟨p,1,none⟩,v1)::(⟨p,2,none⟩,v2)::(⟨p,3,none⟩,v3)::l) w0 ((((W.setCell ⟨p,0,none⟩ v0).setCell ⟨p,1,none⟩ v1).setCell ⟨p,2,none⟩ v2).setCell ⟨p,3,none⟩ v3):=by
 obtain⟨u0,a⟩:=a;obtain⟨u1,b⟩:=b;obtain⟨u2,c⟩:=c;obtain⟨u3,d⟩:=d
 refine ((((K.past4 f e v0 v1 v2 v3).af ?_).af ?_).af ?_).af ?_ <;> go_simp
theorem _root_.Go.Proofs.YtgeafpaognhokaaGreat.Kept.rebase {a:World} (K:Kept l a W) (h:av w0 W):Kept l w0 W:=⟨h,K.2⟩
theorem _root_.Go.Proofs.YtgeafpaognhokaaGreat.Kept.low2 (K:Kept l w0 W) (c:∀ x∈l,x.1.block<w0.heap.size) (a:Below w0.heap.size W w'):Kept l w0 w':=⟨K.1.trans a,fun x b=>⟨cO (c x b) (K.1.trans a).size,(a.cell (p:=x.1) (c x b)).trans (K.2 x b).2⟩⟩
end
theorem BP (w:World):∃ (W:World) (p q:Nat),ai (W=(w.alloc (.cells #[.int .i64 0,.int .i64 0,.string ⟨#[]⟩,.int .i64 0] 97)).alloc (.cells #[.int .i64 0,.int .i64 0,.string ⟨#[]⟩,.int .i64 0] 97))∧ai (p=w.heap.size)∧ai (q=p+1)∧ai (Kept [(⟨p,0,none⟩,.int .i64 0),(⟨p,1,none⟩,.int .i64 0),(⟨p,2,none⟩,.string ⟨#[]⟩),(⟨p,3,none⟩,.int .i64 0)] w W)∧ai (Kept [(⟨q,0,none⟩,.int .i64 0),(⟨q,1,none⟩,.int .i64 0),(⟨q,2,none⟩,.string ⟨#[]⟩),(⟨q,3,none⟩,.int .i64 0)] w W)∧ai (aA p W)∧ai (aA q W)∧av w W:=by
 refine⟨_,_,_,rfl,rfl,rfl,?_,?_,⟨by simp;omega,fun j=>by go_simp⟩,⟨by simp,fun j=>by go_simp⟩,Dt.bC _ _ _ _ _⟩
 ·have a:=Kept.a_ (Dt.bC w #[.int .i64 0,.int .i64 0,.string ⟨#[]⟩,.int .i64 0] #[.int .i64 0,.int .i64 0,.string ⟨#[]⟩,.int .i64 0] 97 97)
  refine (((a.af ?_).af ?_).af ?_).af ?_ <;> go_simp
 ·have a:=Kept.a_ (Dt.bC w #[.int .i64 0,.int .i64 0,.string ⟨#[]⟩,.int .i64 0] #[.int .i64 0,.int .i64 0,.string ⟨#[]⟩,.int .i64 0] 97 97)
  refine (((a.af ?_).af ?_).af ?_).af ?_ <;> go_simp
set_option maxRecDepth 100000 in
set_option maxHeartbeats 4000000 in
theorem C_ (ca cb:List S3) (Ca Cb:Option Addr) (na NZ nb Oa ba bb:Nat) (es Oj:List E) (A B:Option Addr) (n m c d:Nat) (w:World) (Po:ca.length=na) (Pp:cb.length=nb) (Pq:na≤100000) (Ps:nb≤100000)
  (OX:w.cell? ⟨ba,2,none⟩=some (.slice Ca na NZ)) (OY:w.cell? ⟨bb,2,none⟩=some (.slice Cb nb Oa)) (Py:Rd w w.heap.size 3 Ca na NZ (aP ca)) (Pz:Rd w w.heap.size 3 Cb nb Oa (aP cb)) (Pf:aH ca) (Pg:aH cb)
  (Pm:es.length=n) (Pn:Oj.length=m) (hn:n≤100000) (hm:m≤100000) (Pw:Rd w w.heap.size 4 A n c (bV es)) (Px:Rd w w.heap.size 4 B m d (bV Oj)) (OO:Up aV h_ es) (OP:Up aV h_ Oj) (Ph:∀ e∈es,1≤e.n) (Pj:∀ e∈Oj,1≤e.n) :
  Calls Tryz.prog 179 #[.slice A n c,.slice B m d,.func (.func 178) #[] #[],.func (.func 180) #[] #[.pointer (some ⟨bb,0,none⟩),.pointer (some ⟨ba,0,none⟩)]] w fun e w'=>∃ A' q c',e = .returned (.slice A' q c')∧(fu aV h_ (kN ca cb) es Oj).length=q∧Own w' w.heap.size 97 4 A' q c' (bV (fu aV h_ (kN ca cb) es Oj))∧av w w':=by
 have O7:=ah (And.intro Po (And.intro Py Pf));have O8:=ah (And.intro Pp (And.intro Pz Pg));have PE:=ah (((Kept.nil w).af OY).af OX);have Ob:ai (ba<w.heap.size):=aL w _ OX;have Oc:ai (bb<w.heap.size):=aL w _ OY
 have NJ:ai (∀ x∈([(⟨ba,2,none⟩,.slice Ca na NZ),(⟨bb,2,none⟩,.slice Cb nb Oa)]:List (Addr×Value)),x.1.block<w.heap.size):=by
  have M:=Ob.o;have h2:=Oc.o;intro x hx
  simp at hx
  rcases hx with rfl | rfl <;> assumption
 obtain⟨NI,O6⟩:∃ l,fu aV h_ (kN ca cb) es Oj=l:=⟨_,rfl⟩;rw[O6];have Pe:=ah O6
 have O9:ai (NI.length≤n+m):=by
  unfold ai;rw[← O6]
  have M:=oJ (key:=aV) (lt:=h_) (st:=kN ca cb) (fun _=>1) (fun x y z h=>by
   refine Kk x y z h fun hn=>?_;rw[hn.1,hn.2]at h
   cases h) es Oj
  have e1:∀ l:List E,(l.map fun _=>1).sum=l.length:=fun l=>by
   induction l with
   | nil=>rfl
   | cons k l ih=>simp only[List.map_cons,ol,lY,ih];omega
  rw[e1,e1,e1]at M;omega
 have OE:=ah (And.intro Pm (And.intro Pw (And.intro OO Ph)));have OG:=ah (And.intro Pn (And.intro Px (And.intro OP Pj)))
 have O_:ai (n+m≤200000):=FJ
 obtain⟨i0,OL,hz0,OQ,hz2⟩:=dO J5;clear Po Pp OX OY Py Pz Pf Pg Pw Px OO OP Ph Pj O6 Pm Pn;go_enter Tryz.func179,Tryz.ntmps179;go_wp2_with fail
 go_loopw [0,1,9] (fun sa sb so wr=>∃ (a b out:List E) (A B Ax:Option Addr) (n m q c d cx:Nat),sa = .slice A n c∧sb = .slice B m d∧so = .slice Ax q cx∧n≤100000∧m≤100000∧ai (a.length=n)∧ai (Rd wr w.heap.size 4 A n c (bV a))∧ai (Up aV h_ a∧∀ e∈a,1≤e.n)∧ai (b.length=m)∧ai (Rd wr w.heap.size 4 B m d (bV b))∧ai (Up aV h_ b∧∀ e∈b,1≤e.n)∧ai (out++fu aV h_ (kN ca cb) a b=NI)∧ai (out.length=q)∧ai (Own wr w.heap.size 97 4 Ax q cx (bV out))∧ai (Kept [(⟨ba,2,none⟩,.slice Ca na NZ),(⟨bb,2,none⟩,.slice Cb nb Oa)] w wr)) (fun sa sb _ _=>dS (some sa)+dS (some sb))
 case atStart=>exact⟨es,Oj,[],A,B,none,n,m,0,c,d,0,rfl,rfl,rfl,hn,hm,OE.1,OE.2.1,OE.2.2,OG.1,OG.2.1,OG.2.2,by have M:=Pe.o;exact M,rfl,⟨iw _ _ _ _,by simp[bV]⟩,PE⟩
 case round=>
  clear OE OG hn hm;obtain⟨a,b,out,A,B,Ax,n,m,q,c,d,cx,rfl,rfl,rfl,hn,hm,Ou,Ow,NC,Ov,Ox,Nz,g,N,Od,r⟩:=hrel
  by_cases hn0:0<n
  ·by_cases PO:0<m
   ·obtain⟨x,a1,rfl⟩:∃ x l,a=x::l:=by
     cases a with
     | nil=>have M:=Ou.o;simp at M;omega
     | cons x l=>exact⟨x,l,rfl⟩
    obtain⟨Q,R,xs,xv⟩:=x;obtain⟨t,F,rfl,OO,hc⟩:=fI gP Ow (m:=0) (by omega)
    have x0:wr.cell? ⟨t,F,none⟩=some (.int .i64 Q):=by have:=hc 0 (by simp) 0 _ rfl;simpa using this
    have x1:wr.cell? ⟨t,F+1,none⟩=some (.int .i64 R):=by have:=hc 0 (by simp) 1 _ rfl;simpa using this
    have x2:wr.cell? ⟨t,F+2,none⟩=some (.string xs):=by have:=hc 0 (by simp) 2 _ rfl;simpa using this
    have x3:wr.cell? ⟨t,F+3,none⟩=some (.int .i64 xv):=by have:=hc 0 (by simp) 3 _ rfl;simpa using this
    have P9:t<wr.heap.size:=aL wr _ x0;obtain⟨n1,Om⟩:∃ z,z=n-1:=⟨_,rfl⟩
    obtain⟨A1,Oz⟩:∃ z,z=(if c=1 then some (⟨t,F,none⟩:Addr)else (some (⟨t,F,none⟩:Addr)).map (·.add (1*4))):=⟨_,rfl⟩
    have OZ:∀ W,(Instr.slice 32 (.slice (some ⟨t,F,none⟩) n c) (some (.int .i64 1)) none none).run Tryz.prog W = .ok (.slice A1 n1 (c-1)) W:=fun W=>by
     have M:=dV (P:=Tryz.prog) 32 97 4 Tryz.underlying32 OL OQ (some ⟨t,F,none⟩) n c 1 (by omega) W;rw[← Oz,← Om]at M;exact M
    have NU:ai (a1.length=n1∧Rd wr w.heap.size 4 A1 n1 (c-1) (bV a1)):=by
     have M:=Ow.from_ (i:=1) (by omega);have h2:=Ou.o;refine⟨by rw[Om];simp at h2;omega,?_⟩;rw[Oz,Om];exact M
    have PL:((n:Int)==0)=false:=by rw[gN];omega
    have PN:decide ((0:Int)<(n:Int))=true:=aJ (by omega)
    have Pv:n1+1=n:=by omega
    clear hc Om Oz
    obtain⟨y,b1,rfl⟩:∃ x l,b=x::l:=by
     cases b with
     | nil=>have M:=Ov.o;simp at M;omega
     | cons x l=>exact⟨x,l,rfl⟩
    obtain⟨U,V,ys,yv⟩:=y;obtain⟨u,G,rfl,OP,hc⟩:=fI gP Ox (m:=0) (by omega)
    have y0:wr.cell? ⟨u,G,none⟩=some (.int .i64 U):=by have:=hc 0 (by simp) 0 _ rfl;simpa using this
    have y1:wr.cell? ⟨u,G+1,none⟩=some (.int .i64 V):=by have:=hc 0 (by simp) 1 _ rfl;simpa using this
    have y2:wr.cell? ⟨u,G+2,none⟩=some (.string ys):=by have:=hc 0 (by simp) 2 _ rfl;simpa using this
    have y3:wr.cell? ⟨u,G+3,none⟩=some (.int .i64 yv):=by have:=hc 0 (by simp) 3 _ rfl;simpa using this
    have P_:u<wr.heap.size:=aL wr _ y0;obtain⟨m1,Ol⟩:∃ z,z=m-1:=⟨_,rfl⟩
    obtain⟨B1,O0⟩:∃ z,z=(if d=1 then some (⟨u,G,none⟩:Addr)else (some (⟨u,G,none⟩:Addr)).map (·.add (1*4))):=⟨_,rfl⟩
    have Pb:∀ W,(Instr.slice 32 (.slice (some ⟨u,G,none⟩) m d) (some (.int .i64 1)) none none).run Tryz.prog W = .ok (.slice B1 m1 (d-1)) W:=fun W=>by
     have M:=dV (P:=Tryz.prog) 32 97 4 Tryz.underlying32 OL OQ (some ⟨u,G,none⟩) m d 1 (by omega) W;rw[← O0,← Ol]at M;exact M
    have NV:ai (b1.length=m1∧Rd wr w.heap.size 4 B1 m1 (d-1) (bV b1)):=by
     have M:=Ox.from_ (i:=1) (by omega);have h2:=Ov.o;refine⟨by rw[Ol];simp at h2;omega,?_⟩;rw[O0,Ol];exact M
    have PI:((m:Int)==0)=false:=by rw[gN];omega
    have PK:decide ((0:Int)<(m:Int))=true:=aJ (by omega)
    have Pt:m1+1=m:=by omega
    clear hc Ol O0
    by_cases Pd:h_ (Q,R) (U,V)
    ·have X:=Pd
     have f:=ah ((((((((((((Kept.nil wr).af r.c1).af r.c0).af y3).af y2).af y1).af y0).af x3).af x2).af x1).af x0).drew);obtain⟨c9,Oy⟩:∃ z,Dt.lH Q R U V=z:=⟨_,rfl⟩;have Ot:=ah Oy;have g1:decide (c9≤0)=true:=aJ (by have:=ow.2 X;omega);have g2:decide (0≤c9)=false:=aM (by have:=ow.2 X;omega);clear Oy;go_wp2_with fail;refine Rg (S:=fun W=>W.cell? ⟨t,F,none⟩=some (.int .i64 Q)∧W.cell? ⟨t,F+1,none⟩=some (.int .i64 R)∧W.cell? ⟨t,F+2,none⟩=some (.string xs)∧W.cell? ⟨t,F+3,none⟩=some (.int .i64 xv)∧W.cell? ⟨u,G,none⟩=some (.int .i64 U)∧W.cell? ⟨u,G+1,none⟩=some (.int .i64 V)∧W.cell? ⟨u,G+2,none⟩=some (.string ys)∧W.cell? ⟨u,G+3,none⟩=some (.int .i64 yv)) (by exact⟨f.c0,f.c1,f.c2,f.c3,f.c4,f.c5,f.c6,f.c7⟩) (fun hHeld=>?_)
     refine T4 0 24 1 25 2 26 3 27 ?_;refine T4 4 28 5 29 6 30 7 31 ?_;refine T4 8 32 9 33 10 34 11 35 ?_;refine T3 12 36 13 37 14 38 ?_;refine Tc 15 (fun K hK=>?_);go_simp;(go_at_call 178;refine (l9 ⟨Q,R,xs,xv⟩ ⟨U,V,ys,yv⟩ _).mono ?_);rw[Ot.o];rintro e v1 ⟨rfl,NH⟩;have f:=ah (f.later NH);clear NH;clear hHeld;refine Th hK ?_ (fun hHeld=>?_)
     ·exact⟨f.c0,f.c1,f.c2,f.c3,f.c4,f.c5,f.c6,f.c7⟩
     clear hK K;refine T4 16 40 17 41 18 42 19 10 ?_;refine Td ?_;clear hHeld;go_wp2_with fail;have f:=ah (f.drew);refine Rg (S:=fun W=>W.cell? ⟨t,F,none⟩=some (.int .i64 Q)∧W.cell? ⟨t,F+1,none⟩=some (.int .i64 R)∧W.cell? ⟨t,F+2,none⟩=some (.string xs)∧W.cell? ⟨t,F+3,none⟩=some (.int .i64 xv)∧W.cell? ⟨u,G,none⟩=some (.int .i64 U)∧W.cell? ⟨u,G+1,none⟩=some (.int .i64 V)∧W.cell? ⟨u,G+2,none⟩=some (.string ys)∧W.cell? ⟨u,G+3,none⟩=some (.int .i64 yv)) (by exact⟨f.c0,f.c1,f.c2,f.c3,f.c4,f.c5,f.c6,f.c7⟩) (fun hHeld=>?_);refine T4 0 43 1 44 2 45 3 46 ?_;refine T3 4 47 5 48 6 49 ?_
     refine T4 7 50 8 51 9 52 10 53 ?_;refine T4 11 54 12 55 13 56 14 57 ?_;refine Tc 15 (fun K hK=>?_);go_simp;(go_at_call 178;refine (l9 ⟨Q,R,xs,xv⟩ ⟨U,V,ys,yv⟩ _).mono ?_);rw[Ot.o];rintro e v2 ⟨rfl,NH⟩;have f:=ah (f.later NH);clear NH;clear hHeld;refine Th hK ?_ (fun hHeld=>?_)
     ·exact⟨f.c0,f.c1,f.c2,f.c3,f.c4,f.c5,f.c6,f.c7⟩
     clear hK K;refine T4 16 59 17 60 18 61 19 11 ?_;refine Td ?_;clear hHeld;have Oq:=f.below.size;obtain⟨W5,p,v,NW,N9,N7,s,j,H,J,NP⟩:=BP (v2);have f:=ah (f.later NP);have s:=ah (s.rebase f.below);have j:=ah (j.rebase f.below)
     have NY:wr.heap.size≤p:=by have:=N9.o;omega
     have Nw:wr.heap.size≤v:=by have:=N7.o;omega
     have OM:¬p=v:=by have:=N7.o;omega
     have O5:¬v=p:=by omega
     have NT:=r.below.size
     have OI:¬ba=p:=by have:=Ob.o;omega
     have O3:¬ba=v:=by have:=Ob.o;omega
     have OJ:¬bb=p:=by have:=Oc.o;omega
     have O4:¬bb=v:=by have:=Oc.o;omega
     have OT:¬t=p:=by omega
     have OA:¬t=v:=by omega
     have OU:¬p=t:=by omega
     have OB:¬v=t:=by omega
     have OV:¬u=p:=by omega
     have OC:¬u=v:=by omega
     have OW:¬p=u:=by omega
     have OD:¬v=u:=by omega
     clear Oq NP NT;go_wp2_with fail;rw[← N9.o,← N7.o,← NW.o];obtain⟨s0,s1,s2,s3,-⟩:=s.cj;have m0:=H.2 0;have m1:=H.2 1;have m2:=H.2 2;have m3:=H.2 3;obtain⟨t0,t1,t2,t3,-⟩:=f.cj;refine Rk (S:=fun W=>W.cell? ⟨t,F,none⟩=some (.int .i64 Q)∧W.cell? ⟨t,F+1,none⟩=some (.int .i64 R)∧W.cell? ⟨t,F+2,none⟩=some (.string xs)∧W.cell? ⟨t,F+3,none⟩=some (.int .i64 xv)) (fun hHeld=>?_);refine T4 0 63 1 64 2 65 3 66 ?_;refine Tk 4 67 ?_;refine Tc 5 (fun K hK=>?_);go_simp;refine Th hK ?_ (fun D=>?_)
     ·(try dsimp only);go_keep
     clear hK K hHeld;have hHeld:=D;clear D;refine Tk 6 0 ?_;refine Td ?_;clear hHeld s0 s1 s2 s3 m0 m1 m2 m3 t0 t1 t2 t3;obtain⟨W6,L⟩:∃ W,W=(((((W5.setCell ⟨p,0,none⟩ (.int .i64 Q)).setCell ⟨p,1,none⟩ (.int .i64 R)).setCell ⟨p,2,none⟩ (.string xs)).setCell ⟨p,3,none⟩ (.int .i64 xv))).drew:=⟨_,rfl⟩
     have NE:ai (Kept [(⟨t,F,none⟩,.int .i64 Q),(⟨t,F+1,none⟩,.int .i64 R),(⟨t,F+2,none⟩,.string xs),(⟨t,F+3,none⟩,.int .i64 xv),(⟨u,G,none⟩,.int .i64 U),(⟨u,G+1,none⟩,.int .i64 V),(⟨u,G+2,none⟩,.string ys),(⟨u,G+3,none⟩,.int .i64 yv),(⟨ba,2,none⟩,.slice Ca na NZ),(⟨bb,2,none⟩,.slice Cb nb Oa)] wr W6):=by
      unfold ai;rw[L];exact (f.past4 (p:=p) NY (by simp[*]) _ _ _ _).drew
     have NF:ai (Kept [(⟨p,0,none⟩,.int .i64 Q),(⟨p,1,none⟩,.int .i64 R),(⟨p,2,none⟩,.string xs),(⟨p,3,none⟩,.int .i64 xv)] wr W6):=by
      unfold ai;rw[L];exact ((Kept.a_ f.below).set4 (p:=p) NY (by simp) ⟨_,s.c0⟩ ⟨_,s.c1⟩ ⟨_,s.c2⟩ ⟨_,s.c3⟩ _ _ _ _).drew
     have NG:ai (Kept [(⟨v,0,none⟩,.int .i64 0),(⟨v,1,none⟩,.int .i64 0),(⟨v,2,none⟩,.string ⟨#[]⟩),(⟨v,3,none⟩,.int .i64 0)] wr W6):=by
      unfold ai;rw[L];exact (j.past4 (p:=p) NY (by simp[*]) _ _ _ _).drew
     have N_:ai (aA p W6):=ah (by rw[L];exact (((((H.set _ _).set _ _).set _ _).set _ _)).drew)
     have NA:ai (aA v W6):=ah (by rw[L];exact (((((J.set _ _).set _ _).set _ _).set _ _)).drew)
     have Oi:=ah L;clear L f s j H J;have f:=NE;have s:=NF;have j:=NG;have H:=N_;have J:=NA;clear NE NF NG N_ NA;obtain⟨o9,Y⟩:∃ o,kN ca cb (some ⟨Q,R,xs,xv⟩) (none)=o:=⟨_,rfl⟩;have OH:=ah Y
     have g:ai (out++(o9.toList++fu aV h_ (kN ca cb) a1 (⟨U,V,ys,yv⟩::b1))=NI):=by
      have M:=g.o;rw[ET (key:=aV) (lt:=h_) (st:=kN ca cb) (x:=⟨Q,R,xs,xv⟩) (y:=⟨U,V,ys,yv⟩) X a1 b1,Y]at M;exact M
     have Og:ai (q≤200000):=by
      have M:=congrArg List.length g.o;have h2:=O9.o;have h3:=O_.o;have h4:=N.o;rw[bP]at M;unfold ai;omega
     have Nv:=xZ cb Cb nb Oa ba bb Q R xs xv W6 O8.1 Ps f.t8.c1 ((O8.2.1.below (r.below.trans (f.below.mono r.below.size))).more (r.below.trans (f.below.mono r.below.size)).size) O8.2.2
     have Oh:ai (Calls Tryz.prog 180 #[.agg #[.int .i64 Q,.int .i64 R,.string xs,.int .i64 xv],.agg #[.int .i64 0,.int .i64 0,.string ⟨#[]⟩,.int .i64 0],.pointer (some ⟨bb,0,none⟩),.pointer (some ⟨ba,0,none⟩)] W6 (vz o9 W6)):=by
      unfold ai;rw[← Y];exact Nv
     clear Nv;clear Y;rw[← Oi.o];obtain⟨k0,k1,k2,k3,-⟩:=s.cj;have k4:=j.c0;have k5:=j.c1;have k6:=j.c2;have k7:=j.c3;go_wp2_with fail;refine Oh.mono ?_;rintro e Z ⟨z,rfl,hz,O⟩;obtain⟨za,zn,zs,zv⟩:=z;have NK:=ah (f.below.trans (O.mono f.below.size));have Oo:wr.heap.size≤Z.heap.size:=NK.size;have NQ:av Z (Z.alloc (.cells #[.int .i64 za,.int .i64 zn,.string zs,.int .i64 zv] 97)):=Dt.ay _ _ _;have C:ai (av wr (Z.alloc (.cells #[.int .i64 za,.int .i64 zn,.string zs,.int .i64 zv] 97))):=NK.trans (NQ.mono Oo)
     have N8:((Z.alloc (.cells #[.int .i64 za,.int .i64 zn,.string zs,.int .i64 zv] 97))).heap.size=Z.heap.size+1:=by simp
     clear O NQ k0 k1 k2 k3 k4 k5 k6 k7 f s j H J
     cases o9 with
     | none=>
      have g:ai (out++fu aV h_ (kN ca cb) a1 (⟨U,V,ys,yv⟩::b1)=NI):=g.o;go_wp2_with fail;obtain⟨w9,NR⟩:∃ W,W=(Z.alloc (.cells #[.int .i64 za,.int .i64 zn,.string zs,.int .i64 zv] 97)):=⟨_,rfl⟩;rw[← NR]at C ⊢;clear NR N8;go_roundw
      case rel=>exact⟨a1,_,out,A1,some ⟨u,G,none⟩,Ax,n1,m,q,(c-1),d,cx,rfl,rfl,rfl,by omega,by omega,NU.1,NU.2.below (C.mono r.below.size),⟨(fq.1 NC.1).2,fun e he=>NC.2 e (gX _ he)⟩,Ov,Ox.below (C.mono r.below.size),Nz,g,N,aG Od C,r.low2 NJ (C.mono r.below.size)⟩
      case measure=>simp[dS];omega
     | some z9=>
      obtain rfl:=hz z9 rfl;obtain⟨A6,c6,w6,r6,NM,O⟩:=nV ((Z.alloc (.cells #[.int .i64 za,.int .i64 zn,.string zs,.int .i64 zv] 97))) w.heap.size (Z.heap.size+1) N8 (aG Od C) N (aN r.below.size C.size) (⟨za,zn,zs,zv⟩:E) (by have:=Og.o;omega);dsimp only at r6;have NN:=ah r6;have Oe:=ah NM;have NS:=r.below.size;have Ny:ai (Below w.heap.size wr w6):=(C.mono NS).trans O
      have g:ai ((out++[⟨za,zn,zs,zv⟩])++fu aV h_ (kN ca cb) a1 (⟨U,V,ys,yv⟩::b1)=NI):=by
       have M:=g.o;rw[← og]at M;exact M
      have N:ai ((out++[(⟨za,zn,zs,zv⟩:E)]).length=q+1):=ah (by rw[bP,N.o];rfl)
      clear r6 NM O N8 NS;go_wp2_with (at_builtin;refine Lib.wpList_append_run _ rfl _ _ _ _ rfl _ _ rfl rfl _ _ NN ?_);go_roundw
      case rel=>exact⟨a1,_,(out++[(⟨za,zn,zs,zv⟩:E)]),A1,some ⟨u,G,none⟩,A6,n1,m,(q+1),(c-1),d,c6,rfl,rfl,by go_num,by omega,by omega,NU.1,NU.2.below Ny,⟨(fq.1 NC.1).2,fun e he=>NC.2 e (gX _ he)⟩,Ov,Ox.below Ny,Nz,g,N,Oe,r.low2 NJ Ny⟩
      case measure=>simp[dS];omega
    ·by_cases Pk:h_ (U,V) (Q,R)
     ·have X:=And.intro Pd Pk
      have f:=ah ((((((((((((Kept.nil wr).af r.c1).af r.c0).af y3).af y2).af y1).af y0).af x3).af x2).af x1).af x0).drew);obtain⟨c9,Oy⟩:∃ z,Dt.lH Q R U V=z:=⟨_,rfl⟩;have Ot:=ah Oy;have g1:decide (c9≤0)=false:=aM (by have M:¬Dt.lH Q R U V<0:=fun h=>X.1 (ow.1 h);have h2:=A_.2 X.2;omega);have g2:decide (0≤c9)=true:=aJ (by have M:¬Dt.lH Q R U V<0:=fun h=>X.1 (ow.1 h);have h2:=A_.2 X.2;omega);clear Oy;go_wp2_with fail;refine Rg (S:=fun W=>W.cell? ⟨t,F,none⟩=some (.int .i64 Q)∧W.cell? ⟨t,F+1,none⟩=some (.int .i64 R)∧W.cell? ⟨t,F+2,none⟩=some (.string xs)∧W.cell? ⟨t,F+3,none⟩=some (.int .i64 xv)∧W.cell? ⟨u,G,none⟩=some (.int .i64 U)∧W.cell? ⟨u,G+1,none⟩=some (.int .i64 V)∧W.cell? ⟨u,G+2,none⟩=some (.string ys)∧W.cell? ⟨u,G+3,none⟩=some (.int .i64 yv)) (by exact⟨f.c0,f.c1,f.c2,f.c3,f.c4,f.c5,f.c6,f.c7⟩) (fun hHeld=>?_)
      refine T4 0 24 1 25 2 26 3 27 ?_;refine T4 4 28 5 29 6 30 7 31 ?_;refine T4 8 32 9 33 10 34 11 35 ?_;refine T3 12 36 13 37 14 38 ?_;refine Tc 15 (fun K hK=>?_);go_simp;(go_at_call 178;refine (l9 ⟨Q,R,xs,xv⟩ ⟨U,V,ys,yv⟩ _).mono ?_);rw[Ot.o];rintro e v1 ⟨rfl,NH⟩;have f:=ah (f.later NH);clear NH;clear hHeld;refine Th hK ?_ (fun hHeld=>?_)
      ·exact⟨f.c0,f.c1,f.c2,f.c3,f.c4,f.c5,f.c6,f.c7⟩
      clear hK K;refine T4 16 40 17 41 18 42 19 10 ?_;refine Td ?_;clear hHeld;go_wp2_with fail;have f:=ah (f.drew);refine Rg (S:=fun W=>W.cell? ⟨t,F,none⟩=some (.int .i64 Q)∧W.cell? ⟨t,F+1,none⟩=some (.int .i64 R)∧W.cell? ⟨t,F+2,none⟩=some (.string xs)∧W.cell? ⟨t,F+3,none⟩=some (.int .i64 xv)∧W.cell? ⟨u,G,none⟩=some (.int .i64 U)∧W.cell? ⟨u,G+1,none⟩=some (.int .i64 V)∧W.cell? ⟨u,G+2,none⟩=some (.string ys)∧W.cell? ⟨u,G+3,none⟩=some (.int .i64 yv)) (by exact⟨f.c0,f.c1,f.c2,f.c3,f.c4,f.c5,f.c6,f.c7⟩) (fun hHeld=>?_);refine T4 0 43 1 44 2 45 3 46 ?_;refine T3 4 47 5 48 6 49 ?_
      refine T4 7 50 8 51 9 52 10 53 ?_;refine T4 11 54 12 55 13 56 14 57 ?_;refine Tc 15 (fun K hK=>?_);go_simp;(go_at_call 178;refine (l9 ⟨Q,R,xs,xv⟩ ⟨U,V,ys,yv⟩ _).mono ?_);rw[Ot.o];rintro e v2 ⟨rfl,NH⟩;have f:=ah (f.later NH);clear NH;clear hHeld;refine Th hK ?_ (fun hHeld=>?_)
      ·exact⟨f.c0,f.c1,f.c2,f.c3,f.c4,f.c5,f.c6,f.c7⟩
      clear hK K;refine T4 16 59 17 60 18 61 19 11 ?_;refine Td ?_;clear hHeld;have Oq:=f.below.size;obtain⟨W5,p,v,NW,N9,N7,s,j,H,J,NP⟩:=BP (v2);have f:=ah (f.later NP);have s:=ah (s.rebase f.below);have j:=ah (j.rebase f.below)
      have NY:wr.heap.size≤p:=by have:=N9.o;omega
      have Nw:wr.heap.size≤v:=by have:=N7.o;omega
      have OM:¬p=v:=by have:=N7.o;omega
      have O5:¬v=p:=by omega
      have NT:=r.below.size
      have OI:¬ba=p:=by have:=Ob.o;omega
      have O3:¬ba=v:=by have:=Ob.o;omega
      have OJ:¬bb=p:=by have:=Oc.o;omega
      have O4:¬bb=v:=by have:=Oc.o;omega
      have OT:¬t=p:=by omega
      have OA:¬t=v:=by omega
      have OU:¬p=t:=by omega
      have OB:¬v=t:=by omega
      have OV:¬u=p:=by omega
      have OC:¬u=v:=by omega
      have OW:¬p=u:=by omega
      have OD:¬v=u:=by omega
      clear Oq NP NT;go_wp2_with fail;rw[← N9.o,← N7.o,← NW.o];obtain⟨s0,s1,s2,s3,-⟩:=j.cj;have m0:=J.2 0;have m1:=J.2 1;have m2:=J.2 2;have m3:=J.2 3;have t0:=f.c4;have t1:=f.c5;have t2:=f.c6;have t3:=f.c7;refine Rk (S:=fun W=>W.cell? ⟨u,G,none⟩=some (.int .i64 U)∧W.cell? ⟨u,G+1,none⟩=some (.int .i64 V)∧W.cell? ⟨u,G+2,none⟩=some (.string ys)∧W.cell? ⟨u,G+3,none⟩=some (.int .i64 yv)) (fun hHeld=>?_);refine T4 0 69 1 70 2 71 3 72 ?_;refine Tk 4 73 ?_;refine Tc 5 (fun K hK=>?_);go_simp;refine Th hK ?_ (fun D=>?_)
      ·(try dsimp only);go_keep
      clear hK K hHeld;have hHeld:=D;clear D;refine Tk 6 1 ?_;refine Td ?_;clear hHeld s0 s1 s2 s3 m0 m1 m2 m3 t0 t1 t2 t3;obtain⟨W6,L⟩:∃ W,W=(((((W5.setCell ⟨v,0,none⟩ (.int .i64 U)).setCell ⟨v,1,none⟩ (.int .i64 V)).setCell ⟨v,2,none⟩ (.string ys)).setCell ⟨v,3,none⟩ (.int .i64 yv))).drew:=⟨_,rfl⟩
      have NE:ai (Kept [(⟨t,F,none⟩,.int .i64 Q),(⟨t,F+1,none⟩,.int .i64 R),(⟨t,F+2,none⟩,.string xs),(⟨t,F+3,none⟩,.int .i64 xv),(⟨u,G,none⟩,.int .i64 U),(⟨u,G+1,none⟩,.int .i64 V),(⟨u,G+2,none⟩,.string ys),(⟨u,G+3,none⟩,.int .i64 yv),(⟨ba,2,none⟩,.slice Ca na NZ),(⟨bb,2,none⟩,.slice Cb nb Oa)] wr W6):=by
       unfold ai;rw[L];exact (f.past4 (p:=v) Nw (by simp[*]) _ _ _ _).drew
      have NF:ai (Kept [(⟨v,0,none⟩,.int .i64 U),(⟨v,1,none⟩,.int .i64 V),(⟨v,2,none⟩,.string ys),(⟨v,3,none⟩,.int .i64 yv)] wr W6):=by
       unfold ai;rw[L];exact ((Kept.a_ f.below).set4 (p:=v) Nw (by simp) ⟨_,j.c0⟩ ⟨_,j.c1⟩ ⟨_,j.c2⟩ ⟨_,j.c3⟩ _ _ _ _).drew
      have NG:ai (Kept [(⟨p,0,none⟩,.int .i64 0),(⟨p,1,none⟩,.int .i64 0),(⟨p,2,none⟩,.string ⟨#[]⟩),(⟨p,3,none⟩,.int .i64 0)] wr W6):=by
       unfold ai;rw[L];exact (s.past4 (p:=v) Nw (by simp[*]) _ _ _ _).drew
      have N_:ai (aA v W6):=ah (by rw[L];exact (((((J.set _ _).set _ _).set _ _).set _ _)).drew)
      have NA:ai (aA p W6):=ah (by rw[L];exact (((((H.set _ _).set _ _).set _ _).set _ _)).drew)
      have Oi:=ah L;clear L f j s J H;have f:=NE;have j:=NF;have s:=NG;have J:=N_;have H:=NA;clear NE NF NG N_ NA;obtain⟨o9,Y⟩:∃ o,kN ca cb (none) (some ⟨U,V,ys,yv⟩)=o:=⟨_,rfl⟩;have OH:=ah Y
      have g:ai (out++(o9.toList++fu aV h_ (kN ca cb) (⟨Q,R,xs,xv⟩::a1) b1)=NI):=by
       have M:=g.o;rw[ES (key:=aV) (lt:=h_) (st:=kN ca cb) (x:=⟨Q,R,xs,xv⟩) (y:=⟨U,V,ys,yv⟩) X.1 X.2 a1 b1,Y]at M;exact M
      have Og:ai (q≤200000):=by
       have M:=congrArg List.length g.o;have h2:=O9.o;have h3:=O_.o;have h4:=N.o;rw[bP]at M;unfold ai;omega
      have Nv:=vM ca Ca na NZ ba bb U V ys yv W6 O7.1 Pq f.t8.c0 ((O7.2.1.below (r.below.trans (f.below.mono r.below.size))).more (r.below.trans (f.below.mono r.below.size)).size) O7.2.2 (Nz.2 _ fA)
      have Oh:ai (Calls Tryz.prog 180 #[.agg #[.int .i64 0,.int .i64 0,.string ⟨#[]⟩,.int .i64 0],.agg #[.int .i64 U,.int .i64 V,.string ys,.int .i64 yv],.pointer (some ⟨bb,0,none⟩),.pointer (some ⟨ba,0,none⟩)] W6 (vz o9 W6)):=by
       unfold ai;rw[← Y];exact Nv
      clear Nv;clear Y;rw[← Oi.o];obtain⟨k0,k1,k2,k3,-⟩:=s.cj;have k4:=j.c0;have k5:=j.c1;have k6:=j.c2;have k7:=j.c3;go_wp2_with fail;refine Oh.mono ?_;rintro e Z ⟨z,rfl,hz,O⟩;obtain⟨za,zn,zs,zv⟩:=z;have NK:=ah (f.below.trans (O.mono f.below.size));have Oo:wr.heap.size≤Z.heap.size:=NK.size;have NQ:av Z (Z.alloc (.cells #[.int .i64 za,.int .i64 zn,.string zs,.int .i64 zv] 97)):=Dt.ay _ _ _;have C:ai (av wr (Z.alloc (.cells #[.int .i64 za,.int .i64 zn,.string zs,.int .i64 zv] 97))):=NK.trans (NQ.mono Oo)
      have N8:((Z.alloc (.cells #[.int .i64 za,.int .i64 zn,.string zs,.int .i64 zv] 97))).heap.size=Z.heap.size+1:=by simp
      clear O NQ k0 k1 k2 k3 k4 k5 k6 k7 f s j H J
      cases o9 with
      | none=>
       have g:ai (out++fu aV h_ (kN ca cb) (⟨Q,R,xs,xv⟩::a1) b1=NI):=g.o;go_wp2_with fail;obtain⟨w9,NR⟩:∃ W,W=(Z.alloc (.cells #[.int .i64 za,.int .i64 zn,.string zs,.int .i64 zv] 97)):=⟨_,rfl⟩;rw[← NR]at C ⊢;clear NR N8;go_roundw
       case rel=>exact⟨_,b1,out,some ⟨t,F,none⟩,B1,Ax,n,m1,q,c,(d-1),cx,rfl,rfl,rfl,by omega,by omega,Ou,Ow.below (C.mono r.below.size),NC,NV.1,NV.2.below (C.mono r.below.size),⟨(fq.1 Nz.1).2,fun e he=>Nz.2 e (gX _ he)⟩,g,N,aG Od C,r.low2 NJ (C.mono r.below.size)⟩
       case measure=>simp[dS];omega
      | some z9=>
       obtain rfl:=hz z9 rfl;obtain⟨A6,c6,w6,r6,NM,O⟩:=nV ((Z.alloc (.cells #[.int .i64 za,.int .i64 zn,.string zs,.int .i64 zv] 97))) w.heap.size (Z.heap.size+1) N8 (aG Od C) N (aN r.below.size C.size) (⟨za,zn,zs,zv⟩:E) (by have:=Og.o;omega);dsimp only at r6;have NN:=ah r6;have Oe:=ah NM;have NS:=r.below.size;have Ny:ai (Below w.heap.size wr w6):=(C.mono NS).trans O
       have g:ai ((out++[⟨za,zn,zs,zv⟩])++fu aV h_ (kN ca cb) (⟨Q,R,xs,xv⟩::a1) b1=NI):=by
        have M:=g.o;rw[← og]at M;exact M
       have N:ai ((out++[(⟨za,zn,zs,zv⟩:E)]).length=q+1):=ah (by rw[bP,N.o];rfl)
       clear r6 NM O N8 NS;go_wp2_with (at_builtin;refine Lib.wpList_append_run _ rfl _ _ _ _ rfl _ _ rfl rfl _ _ NN ?_);go_roundw
       case rel=>exact⟨_,b1,(out++[(⟨za,zn,zs,zv⟩:E)]),some ⟨t,F,none⟩,B1,A6,n,m1,(q+1),c,(d-1),c6,rfl,rfl,by go_num,by omega,by omega,Ou,Ow.below Ny,NC,NV.1,NV.2.below Ny,⟨(fq.1 Nz.1).2,fun e he=>Nz.2 e (gX _ he)⟩,g,N,Oe,r.low2 NJ Ny⟩
       case measure=>simp[dS];omega
     ·have X:=And.intro Pd Pk
      have f:=ah ((((((((((((Kept.nil wr).af r.c1).af r.c0).af y3).af y2).af y1).af y0).af x3).af x2).af x1).af x0).drew);obtain⟨c9,Oy⟩:∃ z,Dt.lH Q R U V=z:=⟨_,rfl⟩;have Ot:=ah Oy;have g1:decide (c9≤0)=true:=aJ (by have M:¬Dt.lH Q R U V<0:=fun h=>X.1 (ow.1 h);have h2:¬0<Dt.lH Q R U V:=fun h=>X.2 (A_.1 h);omega);have g2:decide (0≤c9)=true:=aJ (by have M:¬Dt.lH Q R U V<0:=fun h=>X.1 (ow.1 h);have h2:¬0<Dt.lH Q R U V:=fun h=>X.2 (A_.1 h);omega);clear Oy;go_wp2_with fail;refine Rg (S:=fun W=>W.cell? ⟨t,F,none⟩=some (.int .i64 Q)∧W.cell? ⟨t,F+1,none⟩=some (.int .i64 R)∧W.cell? ⟨t,F+2,none⟩=some (.string xs)∧W.cell? ⟨t,F+3,none⟩=some (.int .i64 xv)∧W.cell? ⟨u,G,none⟩=some (.int .i64 U)∧W.cell? ⟨u,G+1,none⟩=some (.int .i64 V)∧W.cell? ⟨u,G+2,none⟩=some (.string ys)∧W.cell? ⟨u,G+3,none⟩=some (.int .i64 yv)) (by exact⟨f.c0,f.c1,f.c2,f.c3,f.c4,f.c5,f.c6,f.c7⟩) (fun hHeld=>?_)
      refine T4 0 24 1 25 2 26 3 27 ?_;refine T4 4 28 5 29 6 30 7 31 ?_;refine T4 8 32 9 33 10 34 11 35 ?_;refine T3 12 36 13 37 14 38 ?_;refine Tc 15 (fun K hK=>?_);go_simp;(go_at_call 178;refine (l9 ⟨Q,R,xs,xv⟩ ⟨U,V,ys,yv⟩ _).mono ?_);rw[Ot.o];rintro e v1 ⟨rfl,NH⟩;have f:=ah (f.later NH);clear NH;clear hHeld;refine Th hK ?_ (fun hHeld=>?_)
      ·exact⟨f.c0,f.c1,f.c2,f.c3,f.c4,f.c5,f.c6,f.c7⟩
      clear hK K;refine T4 16 40 17 41 18 42 19 10 ?_;refine Td ?_;clear hHeld;go_wp2_with fail;have f:=ah (f.drew);refine Rg (S:=fun W=>W.cell? ⟨t,F,none⟩=some (.int .i64 Q)∧W.cell? ⟨t,F+1,none⟩=some (.int .i64 R)∧W.cell? ⟨t,F+2,none⟩=some (.string xs)∧W.cell? ⟨t,F+3,none⟩=some (.int .i64 xv)∧W.cell? ⟨u,G,none⟩=some (.int .i64 U)∧W.cell? ⟨u,G+1,none⟩=some (.int .i64 V)∧W.cell? ⟨u,G+2,none⟩=some (.string ys)∧W.cell? ⟨u,G+3,none⟩=some (.int .i64 yv)) (by exact⟨f.c0,f.c1,f.c2,f.c3,f.c4,f.c5,f.c6,f.c7⟩) (fun hHeld=>?_);refine T4 0 43 1 44 2 45 3 46 ?_;refine T3 4 47 5 48 6 49 ?_
      refine T4 7 50 8 51 9 52 10 53 ?_;refine T4 11 54 12 55 13 56 14 57 ?_;refine Tc 15 (fun K hK=>?_);go_simp;(go_at_call 178;refine (l9 ⟨Q,R,xs,xv⟩ ⟨U,V,ys,yv⟩ _).mono ?_);rw[Ot.o];rintro e v2 ⟨rfl,NH⟩;have f:=ah (f.later NH);clear NH;clear hHeld;refine Th hK ?_ (fun hHeld=>?_)
      ·exact⟨f.c0,f.c1,f.c2,f.c3,f.c4,f.c5,f.c6,f.c7⟩
      clear hK K;refine T4 16 59 17 60 18 61 19 11 ?_;refine Td ?_;clear hHeld;have Oq:=f.below.size;obtain⟨W5,p,v,NW,N9,N7,s,j,H,J,NP⟩:=BP (v2);have f:=ah (f.later NP);have s:=ah (s.rebase f.below);have j:=ah (j.rebase f.below)
      have NY:wr.heap.size≤p:=by have:=N9.o;omega
      have Nw:wr.heap.size≤v:=by have:=N7.o;omega
      have OM:¬p=v:=by have:=N7.o;omega
      have O5:¬v=p:=by omega
      have NT:=r.below.size
      have OI:¬ba=p:=by have:=Ob.o;omega
      have O3:¬ba=v:=by have:=Ob.o;omega
      have OJ:¬bb=p:=by have:=Oc.o;omega
      have O4:¬bb=v:=by have:=Oc.o;omega
      have OT:¬t=p:=by omega
      have OA:¬t=v:=by omega
      have OU:¬p=t:=by omega
      have OB:¬v=t:=by omega
      have OV:¬u=p:=by omega
      have OC:¬u=v:=by omega
      have OW:¬p=u:=by omega
      have OD:¬v=u:=by omega
      clear Oq NP NT;go_wp2_with fail;rw[← N9.o,← N7.o,← NW.o];obtain⟨s0,s1,s2,s3,-⟩:=s.cj;have m0:=H.2 0;have m1:=H.2 1;have m2:=H.2 2;have m3:=H.2 3;obtain⟨t0,t1,t2,t3,-⟩:=f.cj;refine Rk (S:=fun W=>W.cell? ⟨t,F,none⟩=some (.int .i64 Q)∧W.cell? ⟨t,F+1,none⟩=some (.int .i64 R)∧W.cell? ⟨t,F+2,none⟩=some (.string xs)∧W.cell? ⟨t,F+3,none⟩=some (.int .i64 xv)) (fun hHeld=>?_);refine T4 0 63 1 64 2 65 3 66 ?_;refine Tk 4 67 ?_;refine Tc 5 (fun K hK=>?_);go_simp;refine Th hK ?_ (fun D=>?_)
      ·(try dsimp only);go_keep
      clear hK K hHeld;have hHeld:=D;clear D;refine Tk 6 0 ?_;refine Td ?_;clear hHeld s0 s1 s2 s3 m0 m1 m2 m3 t0 t1 t2 t3;obtain⟨W6,L⟩:∃ W,W=(((((W5.setCell ⟨p,0,none⟩ (.int .i64 Q)).setCell ⟨p,1,none⟩ (.int .i64 R)).setCell ⟨p,2,none⟩ (.string xs)).setCell ⟨p,3,none⟩ (.int .i64 xv))).drew:=⟨_,rfl⟩
      have NE:ai (Kept [(⟨t,F,none⟩,.int .i64 Q),(⟨t,F+1,none⟩,.int .i64 R),(⟨t,F+2,none⟩,.string xs),(⟨t,F+3,none⟩,.int .i64 xv),(⟨u,G,none⟩,.int .i64 U),(⟨u,G+1,none⟩,.int .i64 V),(⟨u,G+2,none⟩,.string ys),(⟨u,G+3,none⟩,.int .i64 yv),(⟨ba,2,none⟩,.slice Ca na NZ),(⟨bb,2,none⟩,.slice Cb nb Oa)] wr W6):=by
       unfold ai;rw[L];exact (f.past4 (p:=p) NY (by simp[*]) _ _ _ _).drew
      have NF:ai (Kept [(⟨p,0,none⟩,.int .i64 Q),(⟨p,1,none⟩,.int .i64 R),(⟨p,2,none⟩,.string xs),(⟨p,3,none⟩,.int .i64 xv)] wr W6):=by
       unfold ai;rw[L];exact ((Kept.a_ f.below).set4 (p:=p) NY (by simp) ⟨_,s.c0⟩ ⟨_,s.c1⟩ ⟨_,s.c2⟩ ⟨_,s.c3⟩ _ _ _ _).drew
      have NG:ai (Kept [(⟨v,0,none⟩,.int .i64 0),(⟨v,1,none⟩,.int .i64 0),(⟨v,2,none⟩,.string ⟨#[]⟩),(⟨v,3,none⟩,.int .i64 0)] wr W6):=by
       unfold ai;rw[L];exact (j.past4 (p:=p) NY (by simp[*]) _ _ _ _).drew
      have N_:ai (aA p W6):=ah (by rw[L];exact (((((H.set _ _).set _ _).set _ _).set _ _)).drew)
      have NA:ai (aA v W6):=ah (by rw[L];exact (((((J.set _ _).set _ _).set _ _).set _ _)).drew)
      have Oi:=ah L;clear L f s j H J;have f:=NE;have s:=NF;have j:=NG;have H:=N_;have J:=NA;clear NE NF NG N_ NA;rw[← Oi.o];go_wp2_with fail;obtain⟨s0,s1,s2,s3,-⟩:=j.cj;have m0:=J.2 0;have m1:=J.2 1;have m2:=J.2 2;have m3:=J.2 3;have t0:=f.c4;have t1:=f.c5;have t2:=f.c6;have t3:=f.c7;refine Rk (S:=fun W=>W.cell? ⟨u,G,none⟩=some (.int .i64 U)∧W.cell? ⟨u,G+1,none⟩=some (.int .i64 V)∧W.cell? ⟨u,G+2,none⟩=some (.string ys)∧W.cell? ⟨u,G+3,none⟩=some (.int .i64 yv)) (fun hHeld=>?_);refine T4 0 69 1 70 2 71 3 72 ?_;refine Tk 4 73 ?_;refine Tc 5 (fun K hK=>?_);go_simp;refine Th hK ?_ (fun D=>?_)
      ·(try dsimp only);go_keep
      clear hK K hHeld;have hHeld:=D;clear D;refine Tk 6 1 ?_;refine Td ?_;clear hHeld s0 s1 s2 s3 m0 m1 m2 m3 t0 t1 t2 t3;obtain⟨W7,O1⟩:∃ W,W=(((((W6.setCell ⟨v,0,none⟩ (.int .i64 U)).setCell ⟨v,1,none⟩ (.int .i64 V)).setCell ⟨v,2,none⟩ (.string ys)).setCell ⟨v,3,none⟩ (.int .i64 yv))).drew:=⟨_,rfl⟩
      have NE:ai (Kept [(⟨t,F,none⟩,.int .i64 Q),(⟨t,F+1,none⟩,.int .i64 R),(⟨t,F+2,none⟩,.string xs),(⟨t,F+3,none⟩,.int .i64 xv),(⟨u,G,none⟩,.int .i64 U),(⟨u,G+1,none⟩,.int .i64 V),(⟨u,G+2,none⟩,.string ys),(⟨u,G+3,none⟩,.int .i64 yv),(⟨ba,2,none⟩,.slice Ca na NZ),(⟨bb,2,none⟩,.slice Cb nb Oa)] wr W7):=by
       unfold ai;rw[O1];exact (f.past4 (p:=v) Nw (by simp[*]) _ _ _ _).drew
      have NF:ai (Kept [(⟨v,0,none⟩,.int .i64 U),(⟨v,1,none⟩,.int .i64 V),(⟨v,2,none⟩,.string ys),(⟨v,3,none⟩,.int .i64 yv)] wr W7):=by
       unfold ai;rw[O1];exact ((Kept.a_ f.below).set4 (p:=v) Nw (by simp) ⟨_,j.c0⟩ ⟨_,j.c1⟩ ⟨_,j.c2⟩ ⟨_,j.c3⟩ _ _ _ _).drew
      have NG:ai (Kept [(⟨p,0,none⟩,.int .i64 Q),(⟨p,1,none⟩,.int .i64 R),(⟨p,2,none⟩,.string xs),(⟨p,3,none⟩,.int .i64 xv)] wr W7):=by
       unfold ai;rw[O1];exact (s.past4 (p:=v) Nw (by simp[*]) _ _ _ _).drew
      have N_:ai (aA v W7):=ah (by rw[O1];exact (((((J.set _ _).set _ _).set _ _).set _ _)).drew)
      have NA:ai (aA p W7):=ah (by rw[O1];exact (((((H.set _ _).set _ _).set _ _).set _ _)).drew)
      have PG:=ah O1;clear O1 f j s J H;have f:=NE;have j:=NF;have s:=NG;have J:=N_;have H:=NA;clear NE NF NG N_ NA;obtain⟨o9,Y⟩:∃ o,kN ca cb (some ⟨Q,R,xs,xv⟩) (some ⟨U,V,ys,yv⟩)=o:=⟨_,rfl⟩;have OH:=ah Y
      have g:ai (out++(o9.toList++fu aV h_ (kN ca cb) a1 b1)=NI):=by
       have M:=g.o;rw[ER (key:=aV) (lt:=h_) (st:=kN ca cb) (x:=⟨Q,R,xs,xv⟩) (y:=⟨U,V,ys,yv⟩) X.1 X.2 a1 b1,Y]at M;exact M
      have Og:ai (q≤200000):=by
       have M:=congrArg List.length g.o;have h2:=O9.o;have h3:=O_.o;have h4:=N.o;rw[bP]at M;unfold ai;omega
      have Nv:=F5 ba bb Q R xs xv U V ys yv W7 (NC.2 _ fA) (Nz.2 _ fA)
      have Oh:ai (Calls Tryz.prog 180 #[.agg #[.int .i64 Q,.int .i64 R,.string xs,.int .i64 xv],.agg #[.int .i64 U,.int .i64 V,.string ys,.int .i64 yv],.pointer (some ⟨bb,0,none⟩),.pointer (some ⟨ba,0,none⟩)] W7 (vz o9 W7)):=by
       unfold ai;rw[← Y];exact Nv
      clear Nv;clear Y;rw[← PG.o];obtain⟨k0,k1,k2,k3,-⟩:=s.cj;have k4:=j.c0;have k5:=j.c1;have k6:=j.c2;have k7:=j.c3;go_wp2_with fail;refine Oh.mono ?_;rintro e Z ⟨z,rfl,hz,O⟩;obtain⟨za,zn,zs,zv⟩:=z;have NK:=ah (f.below.trans (O.mono f.below.size));have Oo:wr.heap.size≤Z.heap.size:=NK.size;have NQ:av Z (Z.alloc (.cells #[.int .i64 za,.int .i64 zn,.string zs,.int .i64 zv] 97)):=Dt.ay _ _ _;have C:ai (av wr (Z.alloc (.cells #[.int .i64 za,.int .i64 zn,.string zs,.int .i64 zv] 97))):=NK.trans (NQ.mono Oo)
      have N8:((Z.alloc (.cells #[.int .i64 za,.int .i64 zn,.string zs,.int .i64 zv] 97))).heap.size=Z.heap.size+1:=by simp
      clear O NQ k0 k1 k2 k3 k4 k5 k6 k7 f s j H J
      cases o9 with
      | none=>
       have g:ai (out++fu aV h_ (kN ca cb) a1 b1=NI):=g.o;go_wp2_with fail;obtain⟨w9,NR⟩:∃ W,W=(Z.alloc (.cells #[.int .i64 za,.int .i64 zn,.string zs,.int .i64 zv] 97)):=⟨_,rfl⟩;rw[← NR]at C ⊢;clear NR N8;go_roundw
       case rel=>exact⟨a1,b1,out,A1,B1,Ax,n1,m1,q,(c-1),(d-1),cx,rfl,rfl,rfl,by omega,by omega,NU.1,NU.2.below (C.mono r.below.size),⟨(fq.1 NC.1).2,fun e he=>NC.2 e (gX _ he)⟩,NV.1,NV.2.below (C.mono r.below.size),⟨(fq.1 Nz.1).2,fun e he=>Nz.2 e (gX _ he)⟩,g,N,aG Od C,r.low2 NJ (C.mono r.below.size)⟩
       case measure=>simp[dS];omega
      | some z9=>
       obtain rfl:=hz z9 rfl;obtain⟨A6,c6,w6,r6,NM,O⟩:=nV ((Z.alloc (.cells #[.int .i64 za,.int .i64 zn,.string zs,.int .i64 zv] 97))) w.heap.size (Z.heap.size+1) N8 (aG Od C) N (aN r.below.size C.size) (⟨za,zn,zs,zv⟩:E) (by have:=Og.o;omega);dsimp only at r6;have NN:=ah r6;have Oe:=ah NM;have NS:=r.below.size;have Ny:ai (Below w.heap.size wr w6):=(C.mono NS).trans O
       have g:ai ((out++[⟨za,zn,zs,zv⟩])++fu aV h_ (kN ca cb) a1 b1=NI):=by
        have M:=g.o;rw[← og]at M;exact M
       have N:ai ((out++[(⟨za,zn,zs,zv⟩:E)]).length=q+1):=ah (by rw[bP,N.o];rfl)
       clear r6 NM O N8 NS;go_wp2_with (at_builtin;refine Lib.wpList_append_run _ rfl _ _ _ _ rfl _ _ rfl rfl _ _ NN ?_);go_roundw
       case rel=>exact⟨a1,b1,(out++[(⟨za,zn,zs,zv⟩:E)]),A1,B1,A6,n1,m1,(q+1),(c-1),(d-1),c6,rfl,rfl,by go_num,by omega,by omega,NU.1,NU.2.below Ny,⟨(fq.1 NC.1).2,fun e he=>NC.2 e (gX _ he)⟩,NV.1,NV.2.below Ny,⟨(fq.1 Nz.1).2,fun e he=>Nz.2 e (gX _ he)⟩,g,N,Oe,r.low2 NJ Ny⟩
       case measure=>simp[dS];omega
   ·obtain rfl:m=0:=by omega
    obtain rfl:b=[]:=jE.1 Ov
    obtain⟨x,a1,rfl⟩:∃ x l,a=x::l:=by
     cases a with
     | nil=>have M:=Ou.o;simp at M;omega
     | cons x l=>exact⟨x,l,rfl⟩
    obtain⟨Q,R,xs,xv⟩:=x;obtain⟨t,F,rfl,OO,hc⟩:=fI gP Ow (m:=0) (by omega)
    have x0:wr.cell? ⟨t,F,none⟩=some (.int .i64 Q):=by have:=hc 0 (by simp) 0 _ rfl;simpa using this
    have x1:wr.cell? ⟨t,F+1,none⟩=some (.int .i64 R):=by have:=hc 0 (by simp) 1 _ rfl;simpa using this
    have x2:wr.cell? ⟨t,F+2,none⟩=some (.string xs):=by have:=hc 0 (by simp) 2 _ rfl;simpa using this
    have x3:wr.cell? ⟨t,F+3,none⟩=some (.int .i64 xv):=by have:=hc 0 (by simp) 3 _ rfl;simpa using this
    have P9:t<wr.heap.size:=aL wr _ x0;obtain⟨n1,Om⟩:∃ z,z=n-1:=⟨_,rfl⟩
    obtain⟨A1,Oz⟩:∃ z,z=(if c=1 then some (⟨t,F,none⟩:Addr)else (some (⟨t,F,none⟩:Addr)).map (·.add (1*4))):=⟨_,rfl⟩
    have OZ:∀ W,(Instr.slice 32 (.slice (some ⟨t,F,none⟩) n c) (some (.int .i64 1)) none none).run Tryz.prog W = .ok (.slice A1 n1 (c-1)) W:=fun W=>by
     have M:=dV (P:=Tryz.prog) 32 97 4 Tryz.underlying32 OL OQ (some ⟨t,F,none⟩) n c 1 (by omega) W;rw[← Oz,← Om]at M;exact M
    have NU:ai (a1.length=n1∧Rd wr w.heap.size 4 A1 n1 (c-1) (bV a1)):=by
     have M:=Ow.from_ (i:=1) (by omega);have h2:=Ou.o;refine⟨by rw[Om];simp at h2;omega,?_⟩;rw[Oz,Om];exact M
    have PL:((n:Int)==0)=false:=by rw[gN];omega
    have PN:decide ((0:Int)<(n:Int))=true:=aJ (by omega)
    have Pv:n1+1=n:=by omega
    clear hc Om Oz;have f:=ah ((((((((Kept.nil wr).af r.c1).af r.c0).af x3).af x2).af x1).af x0).drew);go_wp2_with fail;refine Rg (S:=fun W=>W.cell? ⟨t,F,none⟩=some (.int .i64 Q)∧W.cell? ⟨t,F+1,none⟩=some (.int .i64 R)∧W.cell? ⟨t,F+2,none⟩=some (.string xs)∧W.cell? ⟨t,F+3,none⟩=some (.int .i64 xv)) (by exact⟨f.c0,f.c1,f.c2,f.c3⟩) (fun hHeld=>?_);refine T4 0 24 1 25 2 26 3 27 ?_;refine U4 4 28 5 29 6 30 7 31 ?_;refine U4 8 32 9 33 10 34 11 35 ?_;refine U4 12 36 13 37 14 38 15 39 ?_;refine U2 16 40 17 41 ?_;refine T2 18 42 19 10 ?_;refine Td ?_
    clear hHeld;go_wp2_with fail;have f:=ah (f.drew);refine Rg (S:=fun W=>W.cell? ⟨t,F,none⟩=some (.int .i64 Q)∧W.cell? ⟨t,F+1,none⟩=some (.int .i64 R)∧W.cell? ⟨t,F+2,none⟩=some (.string xs)∧W.cell? ⟨t,F+3,none⟩=some (.int .i64 xv)) (by exact⟨f.c0,f.c1,f.c2,f.c3⟩) (fun hHeld=>?_);refine T4 0 43 1 44 2 45 3 46 ?_;refine T4 4 47 5 48 6 49 7 50 ?_;refine U4 8 51 9 52 10 53 11 54 ?_;refine U4 12 55 13 56 14 57 15 58 ?_;refine Tn 16 59 ?_;refine T3 17 60 18 61 19 11 ?_;refine Td ?_;clear hHeld;have Oq:=f.below.size;obtain⟨W5,p,v,NW,N9,N7,s,j,H,J,NP⟩:=BP (wr.drew.drew)
    have f:=ah (f.later NP);have s:=ah (s.rebase f.below);have j:=ah (j.rebase f.below);have NW:ai (W5=((wr.alloc (.cells #[.int .i64 0,.int .i64 0,.string ⟨#[]⟩,.int .i64 0] 97)).alloc (.cells #[.int .i64 0,.int .i64 0,.string ⟨#[]⟩,.int .i64 0] 97)).drew.drew):=NW.o;have N9:ai (p=wr.heap.size):=N9.o
    have NY:wr.heap.size≤p:=by have:=N9.o;omega
    have Nw:wr.heap.size≤v:=by have:=N7.o;omega
    have OM:¬p=v:=by have:=N7.o;omega
    have O5:¬v=p:=by omega
    have NT:=r.below.size
    have OI:¬ba=p:=by have:=Ob.o;omega
    have O3:¬ba=v:=by have:=Ob.o;omega
    have OJ:¬bb=p:=by have:=Oc.o;omega
    have O4:¬bb=v:=by have:=Oc.o;omega
    have OT:¬t=p:=by omega
    have OA:¬t=v:=by omega
    have OU:¬p=t:=by omega
    have OB:¬v=t:=by omega
    clear Oq NP NT;go_wp2_with fail;rw[← N9.o,← N7.o,← NW.o];obtain⟨s0,s1,s2,s3,-⟩:=s.cj;have m0:=H.2 0;have m1:=H.2 1;have m2:=H.2 2;have m3:=H.2 3;obtain⟨t0,t1,t2,t3,-⟩:=f.cj;refine Rk (S:=fun W=>W.cell? ⟨t,F,none⟩=some (.int .i64 Q)∧W.cell? ⟨t,F+1,none⟩=some (.int .i64 R)∧W.cell? ⟨t,F+2,none⟩=some (.string xs)∧W.cell? ⟨t,F+3,none⟩=some (.int .i64 xv)) (fun hHeld=>?_);refine T4 0 63 1 64 2 65 3 66 ?_;refine Tk 4 67 ?_;refine Tc 5 (fun K hK=>?_);go_simp;refine Th hK ?_ (fun D=>?_)
    ·(try dsimp only);go_keep
    clear hK K hHeld;have hHeld:=D;clear D;refine Tk 6 0 ?_;refine Td ?_;clear hHeld s0 s1 s2 s3 m0 m1 m2 m3 t0 t1 t2 t3;obtain⟨W6,L⟩:∃ W,W=(((((W5.setCell ⟨p,0,none⟩ (.int .i64 Q)).setCell ⟨p,1,none⟩ (.int .i64 R)).setCell ⟨p,2,none⟩ (.string xs)).setCell ⟨p,3,none⟩ (.int .i64 xv))).drew:=⟨_,rfl⟩
    have NE:ai (Kept [(⟨t,F,none⟩,.int .i64 Q),(⟨t,F+1,none⟩,.int .i64 R),(⟨t,F+2,none⟩,.string xs),(⟨t,F+3,none⟩,.int .i64 xv),(⟨ba,2,none⟩,.slice Ca na NZ),(⟨bb,2,none⟩,.slice Cb nb Oa)] wr W6):=by
     unfold ai;rw[L];exact (f.past4 (p:=p) NY (by simp[*]) _ _ _ _).drew
    have NF:ai (Kept [(⟨p,0,none⟩,.int .i64 Q),(⟨p,1,none⟩,.int .i64 R),(⟨p,2,none⟩,.string xs),(⟨p,3,none⟩,.int .i64 xv)] wr W6):=by
     unfold ai;rw[L];exact ((Kept.a_ f.below).set4 (p:=p) NY (by simp) ⟨_,s.c0⟩ ⟨_,s.c1⟩ ⟨_,s.c2⟩ ⟨_,s.c3⟩ _ _ _ _).drew
    have NG:ai (Kept [(⟨v,0,none⟩,.int .i64 0),(⟨v,1,none⟩,.int .i64 0),(⟨v,2,none⟩,.string ⟨#[]⟩),(⟨v,3,none⟩,.int .i64 0)] wr W6):=by
     unfold ai;rw[L];exact (j.past4 (p:=p) NY (by simp[*]) _ _ _ _).drew
    have N_:ai (aA p W6):=ah (by rw[L];exact (((((H.set _ _).set _ _).set _ _).set _ _)).drew)
    have NA:ai (aA v W6):=ah (by rw[L];exact (((((J.set _ _).set _ _).set _ _).set _ _)).drew)
    have Oi:=ah L;clear L f s j H J;have f:=NE;have s:=NF;have j:=NG;have H:=N_;have J:=NA;clear NE NF NG N_ NA;obtain⟨o9,Y⟩:∃ o,kN ca cb (some ⟨Q,R,xs,xv⟩) (none)=o:=⟨_,rfl⟩;have OH:=ah Y
    have g:ai (out++(o9.toList++fu aV h_ (kN ca cb) a1 [])=NI):=by
     have M:=g.o;rw[xC (key:=aV) (lt:=h_) (st:=kN ca cb) (⟨Q,R,xs,xv⟩:E) a1,Y]at M;exact M
    have Og:ai (q≤200000):=by
     have M:=congrArg List.length g.o;have h2:=O9.o;have h3:=O_.o;have h4:=N.o;rw[bP]at M;unfold ai;omega
    have Nv:=xZ cb Cb nb Oa ba bb Q R xs xv W6 O8.1 Ps f.c5 ((O8.2.1.below (r.below.trans (f.below.mono r.below.size))).more (r.below.trans (f.below.mono r.below.size)).size) O8.2.2
    have Oh:ai (Calls Tryz.prog 180 #[.agg #[.int .i64 Q,.int .i64 R,.string xs,.int .i64 xv],.agg #[.int .i64 0,.int .i64 0,.string ⟨#[]⟩,.int .i64 0],.pointer (some ⟨bb,0,none⟩),.pointer (some ⟨ba,0,none⟩)] W6 (vz o9 W6)):=by
     unfold ai;rw[← Y];exact Nv
    clear Nv;clear Y;rw[← Oi.o];obtain⟨k0,k1,k2,k3,-⟩:=s.cj;have k4:=j.c0;have k5:=j.c1;have k6:=j.c2;have k7:=j.c3;go_wp2_with fail;refine Oh.mono ?_;rintro e Z ⟨z,rfl,hz,O⟩;obtain⟨za,zn,zs,zv⟩:=z;have NK:=ah (f.below.trans (O.mono f.below.size));have Oo:wr.heap.size≤Z.heap.size:=NK.size;have NQ:av Z (Z.alloc (.cells #[.int .i64 za,.int .i64 zn,.string zs,.int .i64 zv] 97)):=Dt.ay _ _ _;have C:ai (av wr (Z.alloc (.cells #[.int .i64 za,.int .i64 zn,.string zs,.int .i64 zv] 97))):=NK.trans (NQ.mono Oo)
    have N8:((Z.alloc (.cells #[.int .i64 za,.int .i64 zn,.string zs,.int .i64 zv] 97))).heap.size=Z.heap.size+1:=by simp
    clear O NQ k0 k1 k2 k3 k4 k5 k6 k7 f s j H J
    cases o9 with
    | none=>
     have g:ai (out++fu aV h_ (kN ca cb) a1 []=NI):=g.o;go_wp2_with fail;obtain⟨w9,NR⟩:∃ W,W=(Z.alloc (.cells #[.int .i64 za,.int .i64 zn,.string zs,.int .i64 zv] 97)):=⟨_,rfl⟩;rw[← NR]at C ⊢;clear NR N8;go_roundw
     case rel=>exact⟨a1,[],out,A1,B,Ax,n1,0,q,(c-1),d,cx,rfl,rfl,rfl,by omega,by omega,NU.1,NU.2.below (C.mono r.below.size),⟨(fq.1 NC.1).2,fun e he=>NC.2 e (gX _ he)⟩,rfl,Ox.below (C.mono r.below.size),Nz,g,N,aG Od C,r.low2 NJ (C.mono r.below.size)⟩
     case measure=>simp[dS];omega
    | some z9=>
     obtain rfl:=hz z9 rfl;obtain⟨A6,c6,w6,r6,NM,O⟩:=nV ((Z.alloc (.cells #[.int .i64 za,.int .i64 zn,.string zs,.int .i64 zv] 97))) w.heap.size (Z.heap.size+1) N8 (aG Od C) N (aN r.below.size C.size) (⟨za,zn,zs,zv⟩:E) (by have:=Og.o;omega);dsimp only at r6;have NN:=ah r6;have Oe:=ah NM;have NS:=r.below.size;have Ny:ai (Below w.heap.size wr w6):=(C.mono NS).trans O
     have g:ai ((out++[⟨za,zn,zs,zv⟩])++fu aV h_ (kN ca cb) a1 []=NI):=by
      have M:=g.o;rw[← og]at M;exact M
     have N:ai ((out++[(⟨za,zn,zs,zv⟩:E)]).length=q+1):=ah (by rw[bP,N.o];rfl)
     clear r6 NM O N8 NS;go_wp2_with (at_builtin;refine Lib.wpList_append_run _ rfl _ _ _ _ rfl _ _ rfl rfl _ _ NN ?_);go_roundw
     case rel=>exact⟨a1,[],(out++[(⟨za,zn,zs,zv⟩:E)]),A1,B,A6,n1,0,(q+1),(c-1),d,c6,rfl,rfl,by go_num,by omega,by omega,NU.1,NU.2.below Ny,⟨(fq.1 NC.1).2,fun e he=>NC.2 e (gX _ he)⟩,rfl,Ox.below Ny,Nz,g,N,Oe,r.low2 NJ Ny⟩
     case measure=>simp[dS];omega
  ·by_cases PO:0<m
   ·obtain rfl:n=0:=by omega
    obtain rfl:a=[]:=jE.1 Ou
    obtain⟨y,b1,rfl⟩:∃ x l,b=x::l:=by
     cases b with
     | nil=>have M:=Ov.o;simp at M;omega
     | cons x l=>exact⟨x,l,rfl⟩
    obtain⟨U,V,ys,yv⟩:=y;obtain⟨u,G,rfl,OP,hc⟩:=fI gP Ox (m:=0) (by omega)
    have y0:wr.cell? ⟨u,G,none⟩=some (.int .i64 U):=by have:=hc 0 (by simp) 0 _ rfl;simpa using this
    have y1:wr.cell? ⟨u,G+1,none⟩=some (.int .i64 V):=by have:=hc 0 (by simp) 1 _ rfl;simpa using this
    have y2:wr.cell? ⟨u,G+2,none⟩=some (.string ys):=by have:=hc 0 (by simp) 2 _ rfl;simpa using this
    have y3:wr.cell? ⟨u,G+3,none⟩=some (.int .i64 yv):=by have:=hc 0 (by simp) 3 _ rfl;simpa using this
    have P_:u<wr.heap.size:=aL wr _ y0;obtain⟨m1,Ol⟩:∃ z,z=m-1:=⟨_,rfl⟩
    obtain⟨B1,O0⟩:∃ z,z=(if d=1 then some (⟨u,G,none⟩:Addr)else (some (⟨u,G,none⟩:Addr)).map (·.add (1*4))):=⟨_,rfl⟩
    have Pb:∀ W,(Instr.slice 32 (.slice (some ⟨u,G,none⟩) m d) (some (.int .i64 1)) none none).run Tryz.prog W = .ok (.slice B1 m1 (d-1)) W:=fun W=>by
     have M:=dV (P:=Tryz.prog) 32 97 4 Tryz.underlying32 OL OQ (some ⟨u,G,none⟩) m d 1 (by omega) W;rw[← O0,← Ol]at M;exact M
    have NV:ai (b1.length=m1∧Rd wr w.heap.size 4 B1 m1 (d-1) (bV b1)):=by
     have M:=Ox.from_ (i:=1) (by omega);have h2:=Ov.o;refine⟨by rw[Ol];simp at h2;omega,?_⟩;rw[O0,Ol];exact M
    have PI:((m:Int)==0)=false:=by rw[gN];omega
    have PK:decide ((0:Int)<(m:Int))=true:=aJ (by omega)
    have Pt:m1+1=m:=by omega
    clear hc Ol O0;have f:=ah ((((((((Kept.nil wr).af r.c1).af r.c0).af y3).af y2).af y1).af y0).drew);go_wp2_with fail;refine Rg (S:=fun W=>W.cell? ⟨u,G,none⟩=some (.int .i64 U)∧W.cell? ⟨u,G+1,none⟩=some (.int .i64 V)∧W.cell? ⟨u,G+2,none⟩=some (.string ys)∧W.cell? ⟨u,G+3,none⟩=some (.int .i64 yv)) (by exact⟨f.c0,f.c1,f.c2,f.c3⟩) (fun hHeld=>?_);refine T4 0 24 1 25 2 26 3 27 ?_;refine T4 4 28 5 29 6 30 7 31 ?_;refine U4 8 32 9 33 10 34 11 35 ?_;refine U4 12 36 13 37 14 38 15 39 ?_;refine Tn 16 40 ?_;refine T3 17 41 18 42 19 10 ?_;refine Td ?_
    clear hHeld;go_wp2_with fail;have f:=ah (f.drew);refine Rg (S:=fun W=>W.cell? ⟨u,G,none⟩=some (.int .i64 U)∧W.cell? ⟨u,G+1,none⟩=some (.int .i64 V)∧W.cell? ⟨u,G+2,none⟩=some (.string ys)∧W.cell? ⟨u,G+3,none⟩=some (.int .i64 yv)) (by exact⟨f.c0,f.c1,f.c2,f.c3⟩) (fun hHeld=>?_);refine T4 0 43 1 44 2 45 3 46 ?_;refine U4 4 47 5 48 6 49 7 50 ?_;refine U4 8 51 9 52 10 53 11 54 ?_;refine U4 12 55 13 56 14 57 15 58 ?_;refine U2 16 59 17 60 ?_;refine T2 18 61 19 11 ?_;refine Td ?_;clear hHeld;have Oq:=f.below.size;obtain⟨W5,p,v,NW,N9,N7,s,j,H,J,NP⟩:=BP (wr.drew.drew)
    have f:=ah (f.later NP);have s:=ah (s.rebase f.below);have j:=ah (j.rebase f.below);have NW:ai (W5=((wr.alloc (.cells #[.int .i64 0,.int .i64 0,.string ⟨#[]⟩,.int .i64 0] 97)).alloc (.cells #[.int .i64 0,.int .i64 0,.string ⟨#[]⟩,.int .i64 0] 97)).drew.drew):=NW.o;have N9:ai (p=wr.heap.size):=N9.o
    have NY:wr.heap.size≤p:=by have:=N9.o;omega
    have Nw:wr.heap.size≤v:=by have:=N7.o;omega
    have OM:¬p=v:=by have:=N7.o;omega
    have O5:¬v=p:=by omega
    have NT:=r.below.size
    have OI:¬ba=p:=by have:=Ob.o;omega
    have O3:¬ba=v:=by have:=Ob.o;omega
    have OJ:¬bb=p:=by have:=Oc.o;omega
    have O4:¬bb=v:=by have:=Oc.o;omega
    have OV:¬u=p:=by omega
    have OC:¬u=v:=by omega
    have OW:¬p=u:=by omega
    have OD:¬v=u:=by omega
    clear Oq NP NT;go_wp2_with fail;rw[← N9.o,← N7.o,← NW.o];obtain⟨s0,s1,s2,s3,-⟩:=j.cj;have m0:=J.2 0;have m1:=J.2 1;have m2:=J.2 2;have m3:=J.2 3;obtain⟨t0,t1,t2,t3,-⟩:=f.cj;refine Rk (S:=fun W=>W.cell? ⟨u,G,none⟩=some (.int .i64 U)∧W.cell? ⟨u,G+1,none⟩=some (.int .i64 V)∧W.cell? ⟨u,G+2,none⟩=some (.string ys)∧W.cell? ⟨u,G+3,none⟩=some (.int .i64 yv)) (fun hHeld=>?_);refine T4 0 69 1 70 2 71 3 72 ?_;refine Tk 4 73 ?_;refine Tc 5 (fun K hK=>?_);go_simp;refine Th hK ?_ (fun D=>?_)
    ·(try dsimp only);go_keep
    clear hK K hHeld;have hHeld:=D;clear D;refine Tk 6 1 ?_;refine Td ?_;clear hHeld s0 s1 s2 s3 m0 m1 m2 m3 t0 t1 t2 t3;obtain⟨W6,L⟩:∃ W,W=(((((W5.setCell ⟨v,0,none⟩ (.int .i64 U)).setCell ⟨v,1,none⟩ (.int .i64 V)).setCell ⟨v,2,none⟩ (.string ys)).setCell ⟨v,3,none⟩ (.int .i64 yv))).drew:=⟨_,rfl⟩
    have NE:ai (Kept [(⟨u,G,none⟩,.int .i64 U),(⟨u,G+1,none⟩,.int .i64 V),(⟨u,G+2,none⟩,.string ys),(⟨u,G+3,none⟩,.int .i64 yv),(⟨ba,2,none⟩,.slice Ca na NZ),(⟨bb,2,none⟩,.slice Cb nb Oa)] wr W6):=by
     unfold ai;rw[L];exact (f.past4 (p:=v) Nw (by simp[*]) _ _ _ _).drew
    have NF:ai (Kept [(⟨v,0,none⟩,.int .i64 U),(⟨v,1,none⟩,.int .i64 V),(⟨v,2,none⟩,.string ys),(⟨v,3,none⟩,.int .i64 yv)] wr W6):=by
     unfold ai;rw[L];exact ((Kept.a_ f.below).set4 (p:=v) Nw (by simp) ⟨_,j.c0⟩ ⟨_,j.c1⟩ ⟨_,j.c2⟩ ⟨_,j.c3⟩ _ _ _ _).drew
    have NG:ai (Kept [(⟨p,0,none⟩,.int .i64 0),(⟨p,1,none⟩,.int .i64 0),(⟨p,2,none⟩,.string ⟨#[]⟩),(⟨p,3,none⟩,.int .i64 0)] wr W6):=by
     unfold ai;rw[L];exact (s.past4 (p:=v) Nw (by simp[*]) _ _ _ _).drew
    have N_:ai (aA v W6):=ah (by rw[L];exact (((((J.set _ _).set _ _).set _ _).set _ _)).drew)
    have NA:ai (aA p W6):=ah (by rw[L];exact (((((H.set _ _).set _ _).set _ _).set _ _)).drew)
    have Oi:=ah L;clear L f j s J H;have f:=NE;have j:=NF;have s:=NG;have J:=N_;have H:=NA;clear NE NF NG N_ NA;obtain⟨o9,Y⟩:∃ o,kN ca cb (none) (some ⟨U,V,ys,yv⟩)=o:=⟨_,rfl⟩;have OH:=ah Y
    have g:ai (out++(o9.toList++fu aV h_ (kN ca cb) [] b1)=NI):=by
     have M:=g.o;rw[uG (key:=aV) (lt:=h_) (st:=kN ca cb) (⟨U,V,ys,yv⟩:E) b1,Y]at M;exact M
    have Og:ai (q≤200000):=by
     have M:=congrArg List.length g.o;have h2:=O9.o;have h3:=O_.o;have h4:=N.o;rw[bP]at M;unfold ai;omega
    have Nv:=vM ca Ca na NZ ba bb U V ys yv W6 O7.1 Pq f.c4 ((O7.2.1.below (r.below.trans (f.below.mono r.below.size))).more (r.below.trans (f.below.mono r.below.size)).size) O7.2.2 (Nz.2 _ fA)
    have Oh:ai (Calls Tryz.prog 180 #[.agg #[.int .i64 0,.int .i64 0,.string ⟨#[]⟩,.int .i64 0],.agg #[.int .i64 U,.int .i64 V,.string ys,.int .i64 yv],.pointer (some ⟨bb,0,none⟩),.pointer (some ⟨ba,0,none⟩)] W6 (vz o9 W6)):=by
     unfold ai;rw[← Y];exact Nv
    clear Nv;clear Y;rw[← Oi.o];obtain⟨k0,k1,k2,k3,-⟩:=s.cj;have k4:=j.c0;have k5:=j.c1;have k6:=j.c2;have k7:=j.c3;go_wp2_with fail;refine Oh.mono ?_;rintro e Z ⟨z,rfl,hz,O⟩;obtain⟨za,zn,zs,zv⟩:=z;have NK:=ah (f.below.trans (O.mono f.below.size));have Oo:wr.heap.size≤Z.heap.size:=NK.size;have NQ:av Z (Z.alloc (.cells #[.int .i64 za,.int .i64 zn,.string zs,.int .i64 zv] 97)):=Dt.ay _ _ _;have C:ai (av wr (Z.alloc (.cells #[.int .i64 za,.int .i64 zn,.string zs,.int .i64 zv] 97))):=NK.trans (NQ.mono Oo)
    have N8:((Z.alloc (.cells #[.int .i64 za,.int .i64 zn,.string zs,.int .i64 zv] 97))).heap.size=Z.heap.size+1:=by simp
    clear O NQ k0 k1 k2 k3 k4 k5 k6 k7 f s j H J
    cases o9 with
    | none=>
     have g:ai (out++fu aV h_ (kN ca cb) [] b1=NI):=g.o;go_wp2_with fail;obtain⟨w9,NR⟩:∃ W,W=(Z.alloc (.cells #[.int .i64 za,.int .i64 zn,.string zs,.int .i64 zv] 97)):=⟨_,rfl⟩;rw[← NR]at C ⊢;clear NR N8;go_roundw
     case rel=>exact⟨[],b1,out,A,B1,Ax,0,m1,q,c,(d-1),cx,rfl,rfl,rfl,by omega,by omega,rfl,Ow.below (C.mono r.below.size),NC,NV.1,NV.2.below (C.mono r.below.size),⟨(fq.1 Nz.1).2,fun e he=>Nz.2 e (gX _ he)⟩,g,N,aG Od C,r.low2 NJ (C.mono r.below.size)⟩
     case measure=>simp[dS];omega
    | some z9=>
     obtain rfl:=hz z9 rfl;obtain⟨A6,c6,w6,r6,NM,O⟩:=nV ((Z.alloc (.cells #[.int .i64 za,.int .i64 zn,.string zs,.int .i64 zv] 97))) w.heap.size (Z.heap.size+1) N8 (aG Od C) N (aN r.below.size C.size) (⟨za,zn,zs,zv⟩:E) (by have:=Og.o;omega);dsimp only at r6;have NN:=ah r6;have Oe:=ah NM;have NS:=r.below.size;have Ny:ai (Below w.heap.size wr w6):=(C.mono NS).trans O
     have g:ai ((out++[⟨za,zn,zs,zv⟩])++fu aV h_ (kN ca cb) [] b1=NI):=by
      have M:=g.o;rw[← og]at M;exact M
     have N:ai ((out++[(⟨za,zn,zs,zv⟩:E)]).length=q+1):=ah (by rw[bP,N.o];rfl)
     clear r6 NM O N8 NS;go_wp2_with (at_builtin;refine Lib.wpList_append_run _ rfl _ _ _ _ rfl _ _ rfl rfl _ _ NN ?_);go_roundw
     case rel=>exact⟨[],b1,(out++[(⟨za,zn,zs,zv⟩:E)]),A,B1,A6,0,m1,(q+1),c,(d-1),c6,rfl,rfl,by go_num,by omega,by omega,rfl,Ow.below Ny,NC,NV.1,NV.2.below Ny,⟨(fq.1 Nz.1).2,fun e he=>Nz.2 e (gX _ he)⟩,g,N,Oe,r.low2 NJ Ny⟩
     case measure=>simp[dS];omega
   ·obtain rfl:n=0:=by omega
    obtain rfl:m=0:=by omega
    obtain rfl:a=[]:=jE.1 Ou.o;obtain rfl:b=[]:=jE.1 Ov.o;have ho:=g.o;rw[oI,kT]at ho;subst ho;go_wp2_with fail;go_ret;exact⟨Ax,q,cx,rfl,N,Od,r.below⟩
end Cs
end Go.Proofs.YtgeafpaognhokaaGreat
