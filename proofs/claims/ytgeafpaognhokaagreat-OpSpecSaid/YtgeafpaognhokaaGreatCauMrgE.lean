/- What is known: two rising lists of entries, side by side. -/
import Derived.Test.YtgeafpaognhokaaGreatG00
import Derived.Test.YtgeafpaognhokaaGreatG20
namespace Go.Proofs.YtgeafpaognhokaaGreat
open ChangeShapes WideShapes ChangeAt RowKit
namespace Cs
open Tr Cx Sp Rw
theorem AJ {a n b m:Int} : 0<Dt.lH a n b m↔ic (b,m) (a,n):=by
 unfold Dt.lH ic;dsimp only
 by_cases c:a<b∨(a=b∧n<m)
 ·rw[if_pos c];simp;omega
 ·rw[if_neg c]
  by_cases d:a=b∧n=m
  ·rw[if_pos d];simp;omega
  ·rw[if_neg d];simp;omega
section
variable {l:List (Addr×Value)} {w0 W w':World} {p:Nat}
theorem _root_.Go.Proofs.YtgeafpaognhokaaGreat.Kept.past4 (K:Kept l w0 W) (c:w0.heap.size≤p) (b:∀ x∈l,x.1.block≠p) (v0 v1 v2 v3:Value):Kept l w0 ((((W.setCell ⟨p,0,none⟩ v0).setCell ⟨p,1,none⟩ v1).setCell ⟨p,2,none⟩ v2).setCell ⟨p,3,none⟩ v3):=
 (((K.set (a:=⟨p,0,none⟩) c b v0).set (a:=⟨p,1,none⟩) c b v1).set (a:=⟨p,2,none⟩) c b v2).set (a:=⟨p,3,none⟩) c b v3
theorem _root_.Go.Proofs.YtgeafpaognhokaaGreat.Kept.set4 (K:Kept l w0 W) (f:w0.heap.size≤p) (e:∀ x∈l,x.1.block≠p) (a:∃ u,W.cell? ⟨p,0,none⟩=some u) (b:∃ u,W.cell? ⟨p,1,none⟩=some u) (c:∃ u,W.cell? ⟨p,2,none⟩=some u) (d:∃ u,W.cell? ⟨p,3,none⟩=some u) (v0 v1 v2 v3:Value):Kept ((⟨p,0,none⟩,v0)::(⟨p,1,none⟩,v1)::(⟨p,2,none⟩,v2)::(⟨p,3,none⟩,v3)::l) w0 ((((W.setCell ⟨p,0,none⟩ v0).setCell ⟨p,1,none⟩ v1).setCell ⟨p,2,none⟩ v2).setCell ⟨p,3,none⟩ v3):=by
 obtain⟨u0,a⟩:=a;obtain⟨u1,b⟩:=b;obtain⟨u2,c⟩:=c;obtain⟨u3,d⟩:=d
 refine ((((K.past4 f e v0 v1 v2 v3).af ?_).af ?_).af ?_).af ?_ <;> go_simp
theorem _root_.Go.Proofs.YtgeafpaognhokaaGreat.Kept.rebase {a:World} (K:Kept l a W) (h:av w0 W):Kept l w0 W:=⟨h,K.2⟩
theorem _root_.Go.Proofs.YtgeafpaognhokaaGreat.Kept.low2 (K:Kept l w0 W) (c:∀ x∈l,x.1.block<w0.heap.size) (a:Below w0.heap.size W w'):Kept l w0 w':=⟨K.1.trans a,fun x b=>⟨cO (c x b) (K.1.trans a).size,(a.cell (p:=x.1) (c x b)).trans (K.2 x b).2⟩⟩
end
theorem BR (w:World):∃ (W:World) (p q:Nat),ai (W=(w.alloc (.cells #[.int .i64 0,.int .i64 0,.string ⟨#[]⟩,.int .i64 0] 97)).alloc (.cells #[.int .i64 0,.int .i64 0,.string ⟨#[]⟩,.int .i64 0] 97))∧ai (p=w.heap.size)∧ai (q=p+1)∧ai (Kept [(⟨p,0,none⟩,.int .i64 0),(⟨p,1,none⟩,.int .i64 0),(⟨p,2,none⟩,.string ⟨#[]⟩),(⟨p,3,none⟩,.int .i64 0)] w W)∧ai (Kept [(⟨q,0,none⟩,.int .i64 0),(⟨q,1,none⟩,.int .i64 0),(⟨q,2,none⟩,.string ⟨#[]⟩),(⟨q,3,none⟩,.int .i64 0)] w W)∧ai (aA p W)∧ai (aA q W)∧av w W:=by
 refine⟨_,_,_,rfl,rfl,rfl,?_,?_,⟨by simp;omega,fun j=>by go_simp⟩,⟨by simp,fun j=>by go_simp⟩,Dt.bC _ _ _ _ _⟩
 ·have a:=Kept.a_ (Dt.bC w #[.int .i64 0,.int .i64 0,.string ⟨#[]⟩,.int .i64 0] #[.int .i64 0,.int .i64 0,.string ⟨#[]⟩,.int .i64 0] 97 97)
  refine (((a.af ?_).af ?_).af ?_).af ?_ <;> go_simp
 ·have a:=Kept.a_ (Dt.bC w #[.int .i64 0,.int .i64 0,.string ⟨#[]⟩,.int .i64 0] #[.int .i64 0,.int .i64 0,.string ⟨#[]⟩,.int .i64 0] 97 97)
  refine (((a.af ?_).af ?_).af ?_).af ?_ <;> go_simp
set_option maxRecDepth 100000 in
set_option maxHeartbeats 4000000 in
theorem CF (ca cb:List S3) (Ca Cb:Option Addr) (na Ob nb Oc ba bb:Nat) (es Om:List E) (A B:Option Addr) (n m c d:Nat) (w:World) (Pq:ca.length=na) (Ps:cb.length=nb) (Pt:na≤100000) (Pv:nb≤100000)
  (OZ:w.cell? ⟨ba,2,none⟩=some (.slice Ca na Ob)) (Pb:w.cell? ⟨bb,2,none⟩=some (.slice Cb nb Oc)) (P5:Rd w w.heap.size 3 Ca na Ob (aP ca)) (P6:Rd w w.heap.size 3 Cb nb Oc (aP cb)) (Ph:aH ca) (Pj:aH cb)
  (Po:es.length=n) (Pp:Om.length=m) (hn:n≤100000) (hm:m≤100000) (Py:Rd w w.heap.size 4 A n c (bV es)) (Pz:Rd w w.heap.size 4 B m d (bV Om)) (OQ:Up aV ic es) (OT:Up aV ic Om) (Pk:∀ e∈es,1≤e.n) (Pm:∀ e∈Om,1≤e.n) :
  Calls Tryz.prog 179 #[.slice A n c,.slice B m d,.func (.func 178) #[] #[],.func (.func 180) #[] #[.pointer (some ⟨bb,0,none⟩),.pointer (some ⟨ba,0,none⟩)]] w fun e w'=>∃ A' q c',e = .returned (.slice A' q c')∧(fu aV ic (kM ca cb) es Om).length=q∧Own w' w.heap.size 97 4 A' q c' (bV (fu aV ic (kM ca cb) es Om))∧av w w':=by
 have O9:=ah (And.intro Pq (And.intro P5 Ph));have O_:=ah (And.intro Ps (And.intro P6 Pj));have P9:=ah (((Kept.nil w).af Pb).af OZ);have Od:ai (ba<w.heap.size):=aL w _ OZ;have Oe:ai (bb<w.heap.size):=aL w _ Pb
 have NM:ai (∀ x∈([(⟨ba,2,none⟩,.slice Ca na Ob),(⟨bb,2,none⟩,.slice Cb nb Oc)]:List (Addr×Value)),x.1.block<w.heap.size):=by
  have M:=Od.o;have h2:=Oe.o;intro x hx
  simp at hx
  rcases hx with rfl | rfl <;> assumption
 obtain⟨NK,O8⟩:∃ l,fu aV ic (kM ca cb) es Om=l:=⟨_,rfl⟩;rw[O8];have Pg:=ah O8
 have OA:ai (NK.length≤n+m):=by
  unfold ai;rw[← O8]
  have M:=oK (key:=aV) (lt:=ic) (st:=kM ca cb) (fun _=>1) (fun x y z h=>by
   refine Km x y z h fun hn=>?_;rw[hn.1,hn.2]at h
   cases h) es Om
  have e1:∀ l:List E,(l.map fun _=>1).sum=l.length:=fun l=>by
   induction l with
   | nil=>rfl
   | cons k l ih=>simp only[List.map_cons,om,lY,ih];omega
  rw[e1,e1,e1]at M;omega
 have OH:=ah (And.intro Po (And.intro Py (And.intro OQ Pk)));have OI:=ah (And.intro Pp (And.intro Pz (And.intro OT Pm)))
 have OB:ai (n+m≤200000):=FL
 obtain⟨i0,OO,hz0,OU,hz2⟩:=dO J7;clear Pq Ps OZ Pb P5 P6 Ph Pj Py Pz OQ OT Pk Pm O8 Po Pp;go_enter Tryz.func179,Tryz.ntmps179;go_wp2_with fail
 go_loopw [0,1,9] (fun sa sb so wr=>∃ (a b out:List E) (A B Ax:Option Addr) (n m q c d cx:Nat),sa = .slice A n c∧sb = .slice B m d∧so = .slice Ax q cx∧n≤100000∧m≤100000∧ai (a.length=n)∧ai (Rd wr w.heap.size 4 A n c (bV a))∧ai (Up aV ic a∧∀ e∈a,1≤e.n)∧ai (b.length=m)∧ai (Rd wr w.heap.size 4 B m d (bV b))∧ai (Up aV ic b∧∀ e∈b,1≤e.n)∧ai (out++fu aV ic (kM ca cb) a b=NK)∧ai (out.length=q)∧ai (Own wr w.heap.size 97 4 Ax q cx (bV out))∧ai (Kept [(⟨ba,2,none⟩,.slice Ca na Ob),(⟨bb,2,none⟩,.slice Cb nb Oc)] w wr)) (fun sa sb _ _=>dS (some sa)+dS (some sb))
 case atStart=>exact⟨es,Om,[],A,B,none,n,m,0,c,d,0,rfl,rfl,rfl,hn,hm,OH.1,OH.2.1,OH.2.2,OI.1,OI.2.1,OI.2.2,by have M:=Pg.o;exact M,rfl,⟨iy _ _ _ _,by simp[bV]⟩,P9⟩
 case round=>
  clear OH OI hn hm;obtain⟨a,b,out,A,B,Ax,n,m,q,c,d,cx,rfl,rfl,rfl,hn,hm,Ow,Oy,NF,Ox,Oz,N8,g,N,Og,r⟩:=hrel
  by_cases hn0:0<n
  ·by_cases PL:0<m
   ·obtain⟨x,a1,rfl⟩:∃ x l,a=x::l:=by
     cases a with
     | nil=>have M:=Ow.o;simp at M;omega
     | cons x l=>exact⟨x,l,rfl⟩
    obtain⟨Q,R,xs,xv⟩:=x;obtain⟨t,F,rfl,OQ,hc⟩:=fJ gQ Oy (m:=0) (by omega)
    have x0:wr.cell? ⟨t,F,none⟩=some (.int .i64 Q):=by have:=hc 0 (by simp) 0 _ rfl;simpa using this
    have x1:wr.cell? ⟨t,F+1,none⟩=some (.int .i64 R):=by have:=hc 0 (by simp) 1 _ rfl;simpa using this
    have x2:wr.cell? ⟨t,F+2,none⟩=some (.string xs):=by have:=hc 0 (by simp) 2 _ rfl;simpa using this
    have x3:wr.cell? ⟨t,F+3,none⟩=some (.int .i64 xv):=by have:=hc 0 (by simp) 3 _ rfl;simpa using this
    have P7:t<wr.heap.size:=aL wr _ x0;obtain⟨n1,Oq⟩:∃ z,z=n-1:=⟨_,rfl⟩
    obtain⟨A1,O1⟩:∃ z,z=(if c=1 then some (⟨t,F,none⟩:Addr)else (some (⟨t,F,none⟩:Addr)).map (·.add (1*4))):=⟨_,rfl⟩
    have Pd:∀ W,(Instr.slice 32 (.slice (some ⟨t,F,none⟩) n c) (some (.int .i64 1)) none none).run Tryz.prog W = .ok (.slice A1 n1 (c-1)) W:=fun W=>by
     have M:=dV (P:=Tryz.prog) 32 97 4 Tryz.underlying32 OO OU (some ⟨t,F,none⟩) n c 1 (by omega) W;rw[← O1,← Oq]at M;exact M
    have NW:ai (a1.length=n1∧Rd wr w.heap.size 4 A1 n1 (c-1) (bV a1)):=by
     have M:=Oy.from_ (i:=1) (by omega);have h2:=Ow.o;refine⟨by rw[Oq];simp at h2;omega,?_⟩;rw[O1,Oq];exact M
    have PI:((n:Int)==0)=false:=by rw[gP];omega
    have PK:decide ((0:Int)<(n:Int))=true:=aJ (by omega)
    have Px:n1+1=n:=by omega
    clear hc Oq O1
    obtain⟨y,b1,rfl⟩:∃ x l,b=x::l:=by
     cases b with
     | nil=>have M:=Ox.o;simp at M;omega
     | cons x l=>exact⟨x,l,rfl⟩
    obtain⟨U,V,ys,yv⟩:=y;obtain⟨u,G,rfl,OT,hc⟩:=fJ gQ Oz (m:=0) (by omega)
    have y0:wr.cell? ⟨u,G,none⟩=some (.int .i64 U):=by have:=hc 0 (by simp) 0 _ rfl;simpa using this
    have y1:wr.cell? ⟨u,G+1,none⟩=some (.int .i64 V):=by have:=hc 0 (by simp) 1 _ rfl;simpa using this
    have y2:wr.cell? ⟨u,G+2,none⟩=some (.string ys):=by have:=hc 0 (by simp) 2 _ rfl;simpa using this
    have y3:wr.cell? ⟨u,G+3,none⟩=some (.int .i64 yv):=by have:=hc 0 (by simp) 3 _ rfl;simpa using this
    have P8:u<wr.heap.size:=aL wr _ y0;obtain⟨m1,Oo⟩:∃ z,z=m-1:=⟨_,rfl⟩
    obtain⟨B1,O3⟩:∃ z,z=(if d=1 then some (⟨u,G,none⟩:Addr)else (some (⟨u,G,none⟩:Addr)).map (·.add (1*4))):=⟨_,rfl⟩
    have Pe:∀ W,(Instr.slice 32 (.slice (some ⟨u,G,none⟩) m d) (some (.int .i64 1)) none none).run Tryz.prog W = .ok (.slice B1 m1 (d-1)) W:=fun W=>by
     have M:=dV (P:=Tryz.prog) 32 97 4 Tryz.underlying32 OO OU (some ⟨u,G,none⟩) m d 1 (by omega) W;rw[← O3,← Oo]at M;exact M
    have NY:ai (b1.length=m1∧Rd wr w.heap.size 4 B1 m1 (d-1) (bV b1)):=by
     have M:=Oz.from_ (i:=1) (by omega);have h2:=Ox.o;refine⟨by rw[Oo];simp at h2;omega,?_⟩;rw[O3,Oo];exact M
    have PE:((m:Int)==0)=false:=by rw[gP];omega
    have PG:decide ((0:Int)<(m:Int))=true:=aJ (by omega)
    have Pw:m1+1=m:=by omega
    clear hc Oo O3
    by_cases Pf:ic (Q,R) (U,V)
    ·have X:=Pf
     have f:=ah ((((((((((((Kept.nil wr).af r.c1).af r.c0).af y3).af y2).af y1).af y0).af x3).af x2).af x1).af x0).drew);obtain⟨c9,O0⟩:∃ z,Dt.lH Q R U V=z:=⟨_,rfl⟩;have Ov:=ah O0;have g1:decide (c9≤0)=true:=aJ (by have:=oz.2 X;omega);have g2:decide (0≤c9)=false:=aM (by have:=oz.2 X;omega);clear O0;go_wp2_with fail;refine Rg (S:=fun W=>W.cell? ⟨t,F,none⟩=some (.int .i64 Q)∧W.cell? ⟨t,F+1,none⟩=some (.int .i64 R)∧W.cell? ⟨t,F+2,none⟩=some (.string xs)∧W.cell? ⟨t,F+3,none⟩=some (.int .i64 xv)∧W.cell? ⟨u,G,none⟩=some (.int .i64 U)∧W.cell? ⟨u,G+1,none⟩=some (.int .i64 V)∧W.cell? ⟨u,G+2,none⟩=some (.string ys)∧W.cell? ⟨u,G+3,none⟩=some (.int .i64 yv)) (by exact⟨f.c0,f.c1,f.c2,f.c3,f.c4,f.c5,f.c6,f.c7⟩) (fun hHeld=>?_)
     refine T4 0 24 1 25 2 26 3 27 ?_;refine T4 4 28 5 29 6 30 7 31 ?_;refine T4 8 32 9 33 10 34 11 35 ?_;refine T3 12 36 13 37 14 38 ?_;refine Tc 15 (fun K hK=>?_);go_simp;(go_at_call 178;refine (l9 ⟨Q,R,xs,xv⟩ ⟨U,V,ys,yv⟩ _).mono ?_);rw[Ov.o];rintro e v1 ⟨rfl,NJ⟩;have f:=ah (f.later NJ);clear NJ;clear hHeld;refine Th hK ?_ (fun hHeld=>?_)
     ·exact⟨f.c0,f.c1,f.c2,f.c3,f.c4,f.c5,f.c6,f.c7⟩
     clear hK K;refine T4 16 40 17 41 18 42 19 10 ?_;refine Td ?_;clear hHeld;go_wp2_with fail;have f:=ah (f.drew);refine Rg (S:=fun W=>W.cell? ⟨t,F,none⟩=some (.int .i64 Q)∧W.cell? ⟨t,F+1,none⟩=some (.int .i64 R)∧W.cell? ⟨t,F+2,none⟩=some (.string xs)∧W.cell? ⟨t,F+3,none⟩=some (.int .i64 xv)∧W.cell? ⟨u,G,none⟩=some (.int .i64 U)∧W.cell? ⟨u,G+1,none⟩=some (.int .i64 V)∧W.cell? ⟨u,G+2,none⟩=some (.string ys)∧W.cell? ⟨u,G+3,none⟩=some (.int .i64 yv)) (by exact⟨f.c0,f.c1,f.c2,f.c3,f.c4,f.c5,f.c6,f.c7⟩) (fun hHeld=>?_);refine T4 0 43 1 44 2 45 3 46 ?_;refine T3 4 47 5 48 6 49 ?_
     refine T4 7 50 8 51 9 52 10 53 ?_;refine T4 11 54 12 55 13 56 14 57 ?_;refine Tc 15 (fun K hK=>?_);go_simp;(go_at_call 178;refine (l9 ⟨Q,R,xs,xv⟩ ⟨U,V,ys,yv⟩ _).mono ?_);rw[Ov.o];rintro e v2 ⟨rfl,NJ⟩;have f:=ah (f.later NJ);clear NJ;clear hHeld;refine Th hK ?_ (fun hHeld=>?_)
     ·exact⟨f.c0,f.c1,f.c2,f.c3,f.c4,f.c5,f.c6,f.c7⟩
     clear hK K;refine T4 16 59 17 60 18 61 19 11 ?_;refine Td ?_;clear hHeld;have Ou:=f.below.size;obtain⟨W5,p,v,NZ,NA,N9,s,j,H,J,NR⟩:=BR (v2);have f:=ah (f.later NR);have s:=ah (s.rebase f.below);have j:=ah (j.rebase f.below)
     have Oa:wr.heap.size≤p:=by have:=NA.o;omega
     have Nz:wr.heap.size≤v:=by have:=N9.o;omega
     have OP:¬p=v:=by have:=N9.o;omega
     have O7:¬v=p:=by omega
     have NV:=r.below.size
     have OL:¬ba=p:=by have:=Od.o;omega
     have O5:¬ba=v:=by have:=Od.o;omega
     have OM:¬bb=p:=by have:=Oe.o;omega
     have O6:¬bb=v:=by have:=Oe.o;omega
     have OV:¬t=p:=by omega
     have OC:¬t=v:=by omega
     have OW:¬p=t:=by omega
     have OD:¬v=t:=by omega
     have OX:¬u=p:=by omega
     have OE:¬u=v:=by omega
     have OY:¬p=u:=by omega
     have OG:¬v=u:=by omega
     clear Ou NR NV;go_wp2_with fail;rw[← NA.o,← N9.o,← NZ.o];obtain⟨s0,s1,s2,s3,-⟩:=s.cj;have m0:=H.2 0;have m1:=H.2 1;have m2:=H.2 2;have m3:=H.2 3;obtain⟨t0,t1,t2,t3,-⟩:=f.cj;refine Rk (S:=fun W=>W.cell? ⟨t,F,none⟩=some (.int .i64 Q)∧W.cell? ⟨t,F+1,none⟩=some (.int .i64 R)∧W.cell? ⟨t,F+2,none⟩=some (.string xs)∧W.cell? ⟨t,F+3,none⟩=some (.int .i64 xv)) (fun hHeld=>?_);refine T4 0 63 1 64 2 65 3 66 ?_;refine Tk 4 67 ?_;refine Tc 5 (fun K hK=>?_);go_simp;refine Th hK ?_ (fun D=>?_)
     ·(try dsimp only);go_keep
     clear hK K hHeld;have hHeld:=D;clear D;refine Tk 6 0 ?_;refine Td ?_;clear hHeld s0 s1 s2 s3 m0 m1 m2 m3 t0 t1 t2 t3;obtain⟨W6,L⟩:∃ W,W=(((((W5.setCell ⟨p,0,none⟩ (.int .i64 Q)).setCell ⟨p,1,none⟩ (.int .i64 R)).setCell ⟨p,2,none⟩ (.string xs)).setCell ⟨p,3,none⟩ (.int .i64 xv))).drew:=⟨_,rfl⟩
     have NG:ai (Kept [(⟨t,F,none⟩,.int .i64 Q),(⟨t,F+1,none⟩,.int .i64 R),(⟨t,F+2,none⟩,.string xs),(⟨t,F+3,none⟩,.int .i64 xv),(⟨u,G,none⟩,.int .i64 U),(⟨u,G+1,none⟩,.int .i64 V),(⟨u,G+2,none⟩,.string ys),(⟨u,G+3,none⟩,.int .i64 yv),(⟨ba,2,none⟩,.slice Ca na Ob),(⟨bb,2,none⟩,.slice Cb nb Oc)] wr W6):=by
      unfold ai;rw[L];exact (f.past4 (p:=p) Oa (by simp[*]) _ _ _ _).drew
     have NH:ai (Kept [(⟨p,0,none⟩,.int .i64 Q),(⟨p,1,none⟩,.int .i64 R),(⟨p,2,none⟩,.string xs),(⟨p,3,none⟩,.int .i64 xv)] wr W6):=by
      unfold ai;rw[L];exact ((Kept.a_ f.below).set4 (p:=p) Oa (by simp) ⟨_,s.c0⟩ ⟨_,s.c1⟩ ⟨_,s.c2⟩ ⟨_,s.c3⟩ _ _ _ _).drew
     have NI:ai (Kept [(⟨v,0,none⟩,.int .i64 0),(⟨v,1,none⟩,.int .i64 0),(⟨v,2,none⟩,.string ⟨#[]⟩),(⟨v,3,none⟩,.int .i64 0)] wr W6):=by
      unfold ai;rw[L];exact (j.past4 (p:=p) Oa (by simp[*]) _ _ _ _).drew
     have NC:ai (aA p W6):=ah (by rw[L];exact (((((H.set _ _).set _ _).set _ _).set _ _)).drew)
     have NE:ai (aA v W6):=ah (by rw[L];exact (((((J.set _ _).set _ _).set _ _).set _ _)).drew)
     have Ol:=ah L;clear L f s j H J;have f:=NG;have s:=NH;have j:=NI;have H:=NC;have J:=NE;clear NG NH NI NC NE;obtain⟨o9,Y⟩:∃ o,kM ca cb (some ⟨Q,R,xs,xv⟩) (none)=o:=⟨_,rfl⟩;have OJ:=ah Y
     have g:ai (out++(o9.toList++fu aV ic (kM ca cb) a1 (⟨U,V,ys,yv⟩::b1))=NK):=by
      have M:=g.o;rw[EW (key:=aV) (lt:=ic) (st:=kM ca cb) (x:=⟨Q,R,xs,xv⟩) (y:=⟨U,V,ys,yv⟩) X a1 b1,Y]at M;exact M
     have Oi:ai (q≤200000):=by
      have M:=congrArg List.length g.o;have h2:=OA.o;have h3:=OB.o;have h4:=N.o;rw[bP]at M;unfold ai;omega
     have Ny:=yh cb Cb nb Oc ba bb Q R xs xv W6 O_.1 Pv f.t8.c1 ((O_.2.1.below (r.below.trans (f.below.mono r.below.size))).more (r.below.trans (f.below.mono r.below.size)).size) O_.2.2
     have Oj:ai (Calls Tryz.prog 180 #[.agg #[.int .i64 Q,.int .i64 R,.string xs,.int .i64 xv],.agg #[.int .i64 0,.int .i64 0,.string ⟨#[]⟩,.int .i64 0],.pointer (some ⟨bb,0,none⟩),.pointer (some ⟨ba,0,none⟩)] W6 (vC o9 W6)):=by
      unfold ai;rw[← Y];exact Ny
     clear Ny;clear Y;rw[← Ol.o];obtain⟨k0,k1,k2,k3,-⟩:=s.cj;have k4:=j.c0;have k5:=j.c1;have k6:=j.c2;have k7:=j.c3;go_wp2_with fail;refine Oj.mono ?_;rintro e Z ⟨z,rfl,hz,O⟩;obtain⟨za,zn,zs,zv⟩:=z;have NN:=ah (f.below.trans (O.mono f.below.size));have Ot:wr.heap.size≤Z.heap.size:=NN.size;have NS:av Z (Z.alloc (.cells #[.int .i64 za,.int .i64 zn,.string zs,.int .i64 zv] 97)):=Dt.ay _ _ _;have C:ai (av wr (Z.alloc (.cells #[.int .i64 za,.int .i64 zn,.string zs,.int .i64 zv] 97))):=NN.trans (NS.mono Ot)
     have N_:((Z.alloc (.cells #[.int .i64 za,.int .i64 zn,.string zs,.int .i64 zv] 97))).heap.size=Z.heap.size+1:=by simp
     clear O NS k0 k1 k2 k3 k4 k5 k6 k7 f s j H J
     cases o9 with
     | none=>
      have g:ai (out++fu aV ic (kM ca cb) a1 (⟨U,V,ys,yv⟩::b1)=NK):=g.o;go_wp2_with fail;obtain⟨w9,NT⟩:∃ W,W=(Z.alloc (.cells #[.int .i64 za,.int .i64 zn,.string zs,.int .i64 zv] 97)):=⟨_,rfl⟩;rw[← NT]at C ⊢;clear NT N_;go_roundw
      case rel=>exact⟨a1,_,out,A1,some ⟨u,G,none⟩,Ax,n1,m,q,(c-1),d,cx,rfl,rfl,rfl,by omega,by omega,NW.1,NW.2.below (C.mono r.below.size),⟨(fq.1 NF.1).2,fun e he=>NF.2 e (gY _ he)⟩,Ox,Oz.below (C.mono r.below.size),N8,g,N,aG Og C,r.low2 NM (C.mono r.below.size)⟩
      case measure=>simp[dS];omega
     | some z9=>
      obtain rfl:=hz z9 rfl;obtain⟨A6,c6,w6,r6,NP,O⟩:=nW ((Z.alloc (.cells #[.int .i64 za,.int .i64 zn,.string zs,.int .i64 zv] 97))) w.heap.size (Z.heap.size+1) N_ (aG Og C) N (aN r.below.size C.size) (⟨za,zn,zs,zv⟩:E) (by have:=Oi.o;omega);dsimp only at r6;have NQ:=ah r6;have Oh:=ah NP;have NU:=r.below.size;have N7:ai (Below w.heap.size wr w6):=(C.mono NU).trans O
      have g:ai ((out++[⟨za,zn,zs,zv⟩])++fu aV ic (kM ca cb) a1 (⟨U,V,ys,yv⟩::b1)=NK):=by
       have M:=g.o;rw[← oh]at M;exact M
      have N:ai ((out++[(⟨za,zn,zs,zv⟩:E)]).length=q+1):=ah (by rw[bP,N.o];rfl)
      clear r6 NP O N_ NU;go_wp2_with (at_builtin;refine Lib.wpList_append_run _ rfl _ _ _ _ rfl _ _ rfl rfl _ _ NQ ?_);go_roundw
      case rel=>exact⟨a1,_,(out++[(⟨za,zn,zs,zv⟩:E)]),A1,some ⟨u,G,none⟩,A6,n1,m,(q+1),(c-1),d,c6,rfl,rfl,by go_num,by omega,by omega,NW.1,NW.2.below N7,⟨(fq.1 NF.1).2,fun e he=>NF.2 e (gY _ he)⟩,Ox,Oz.below N7,N8,g,N,Oh,r.low2 NM N7⟩
      case measure=>simp[dS];omega
    ·by_cases Pn:ic (U,V) (Q,R)
     ·have X:=And.intro Pf Pn
      have f:=ah ((((((((((((Kept.nil wr).af r.c1).af r.c0).af y3).af y2).af y1).af y0).af x3).af x2).af x1).af x0).drew);obtain⟨c9,O0⟩:∃ z,Dt.lH Q R U V=z:=⟨_,rfl⟩;have Ov:=ah O0;have g1:decide (c9≤0)=false:=aM (by have M:¬Dt.lH Q R U V<0:=fun h=>X.1 (oz.1 h);have h2:=AJ.2 X.2;omega);have g2:decide (0≤c9)=true:=aJ (by have M:¬Dt.lH Q R U V<0:=fun h=>X.1 (oz.1 h);have h2:=AJ.2 X.2;omega);clear O0;go_wp2_with fail;refine Rg (S:=fun W=>W.cell? ⟨t,F,none⟩=some (.int .i64 Q)∧W.cell? ⟨t,F+1,none⟩=some (.int .i64 R)∧W.cell? ⟨t,F+2,none⟩=some (.string xs)∧W.cell? ⟨t,F+3,none⟩=some (.int .i64 xv)∧W.cell? ⟨u,G,none⟩=some (.int .i64 U)∧W.cell? ⟨u,G+1,none⟩=some (.int .i64 V)∧W.cell? ⟨u,G+2,none⟩=some (.string ys)∧W.cell? ⟨u,G+3,none⟩=some (.int .i64 yv)) (by exact⟨f.c0,f.c1,f.c2,f.c3,f.c4,f.c5,f.c6,f.c7⟩) (fun hHeld=>?_)
      refine T4 0 24 1 25 2 26 3 27 ?_;refine T4 4 28 5 29 6 30 7 31 ?_;refine T4 8 32 9 33 10 34 11 35 ?_;refine T3 12 36 13 37 14 38 ?_;refine Tc 15 (fun K hK=>?_);go_simp;(go_at_call 178;refine (l9 ⟨Q,R,xs,xv⟩ ⟨U,V,ys,yv⟩ _).mono ?_);rw[Ov.o];rintro e v1 ⟨rfl,NJ⟩;have f:=ah (f.later NJ);clear NJ;clear hHeld;refine Th hK ?_ (fun hHeld=>?_)
      ·exact⟨f.c0,f.c1,f.c2,f.c3,f.c4,f.c5,f.c6,f.c7⟩
      clear hK K;refine T4 16 40 17 41 18 42 19 10 ?_;refine Td ?_;clear hHeld;go_wp2_with fail;have f:=ah (f.drew);refine Rg (S:=fun W=>W.cell? ⟨t,F,none⟩=some (.int .i64 Q)∧W.cell? ⟨t,F+1,none⟩=some (.int .i64 R)∧W.cell? ⟨t,F+2,none⟩=some (.string xs)∧W.cell? ⟨t,F+3,none⟩=some (.int .i64 xv)∧W.cell? ⟨u,G,none⟩=some (.int .i64 U)∧W.cell? ⟨u,G+1,none⟩=some (.int .i64 V)∧W.cell? ⟨u,G+2,none⟩=some (.string ys)∧W.cell? ⟨u,G+3,none⟩=some (.int .i64 yv)) (by exact⟨f.c0,f.c1,f.c2,f.c3,f.c4,f.c5,f.c6,f.c7⟩) (fun hHeld=>?_);refine T4 0 43 1 44 2 45 3 46 ?_;refine T3 4 47 5 48 6 49 ?_
      refine T4 7 50 8 51 9 52 10 53 ?_;refine T4 11 54 12 55 13 56 14 57 ?_;refine Tc 15 (fun K hK=>?_);go_simp;(go_at_call 178;refine (l9 ⟨Q,R,xs,xv⟩ ⟨U,V,ys,yv⟩ _).mono ?_);rw[Ov.o];rintro e v2 ⟨rfl,NJ⟩;have f:=ah (f.later NJ);clear NJ;clear hHeld;refine Th hK ?_ (fun hHeld=>?_)
      ·exact⟨f.c0,f.c1,f.c2,f.c3,f.c4,f.c5,f.c6,f.c7⟩
      clear hK K;refine T4 16 59 17 60 18 61 19 11 ?_;refine Td ?_;clear hHeld;have Ou:=f.below.size;obtain⟨W5,p,v,NZ,NA,N9,s,j,H,J,NR⟩:=BR (v2);have f:=ah (f.later NR);have s:=ah (s.rebase f.below);have j:=ah (j.rebase f.below)
      have Oa:wr.heap.size≤p:=by have:=NA.o;omega
      have Nz:wr.heap.size≤v:=by have:=N9.o;omega
      have OP:¬p=v:=by have:=N9.o;omega
      have O7:¬v=p:=by omega
      have NV:=r.below.size
      have OL:¬ba=p:=by have:=Od.o;omega
      have O5:¬ba=v:=by have:=Od.o;omega
      have OM:¬bb=p:=by have:=Oe.o;omega
      have O6:¬bb=v:=by have:=Oe.o;omega
      have OV:¬t=p:=by omega
      have OC:¬t=v:=by omega
      have OW:¬p=t:=by omega
      have OD:¬v=t:=by omega
      have OX:¬u=p:=by omega
      have OE:¬u=v:=by omega
      have OY:¬p=u:=by omega
      have OG:¬v=u:=by omega
      clear Ou NR NV;go_wp2_with fail;rw[← NA.o,← N9.o,← NZ.o];obtain⟨s0,s1,s2,s3,-⟩:=j.cj;have m0:=J.2 0;have m1:=J.2 1;have m2:=J.2 2;have m3:=J.2 3;have t0:=f.c4;have t1:=f.c5;have t2:=f.c6;have t3:=f.c7;refine Rk (S:=fun W=>W.cell? ⟨u,G,none⟩=some (.int .i64 U)∧W.cell? ⟨u,G+1,none⟩=some (.int .i64 V)∧W.cell? ⟨u,G+2,none⟩=some (.string ys)∧W.cell? ⟨u,G+3,none⟩=some (.int .i64 yv)) (fun hHeld=>?_);refine T4 0 69 1 70 2 71 3 72 ?_;refine Tk 4 73 ?_;refine Tc 5 (fun K hK=>?_);go_simp;refine Th hK ?_ (fun D=>?_)
      ·(try dsimp only);go_keep
      clear hK K hHeld;have hHeld:=D;clear D;refine Tk 6 1 ?_;refine Td ?_;clear hHeld s0 s1 s2 s3 m0 m1 m2 m3 t0 t1 t2 t3;obtain⟨W6,L⟩:∃ W,W=(((((W5.setCell ⟨v,0,none⟩ (.int .i64 U)).setCell ⟨v,1,none⟩ (.int .i64 V)).setCell ⟨v,2,none⟩ (.string ys)).setCell ⟨v,3,none⟩ (.int .i64 yv))).drew:=⟨_,rfl⟩
      have NG:ai (Kept [(⟨t,F,none⟩,.int .i64 Q),(⟨t,F+1,none⟩,.int .i64 R),(⟨t,F+2,none⟩,.string xs),(⟨t,F+3,none⟩,.int .i64 xv),(⟨u,G,none⟩,.int .i64 U),(⟨u,G+1,none⟩,.int .i64 V),(⟨u,G+2,none⟩,.string ys),(⟨u,G+3,none⟩,.int .i64 yv),(⟨ba,2,none⟩,.slice Ca na Ob),(⟨bb,2,none⟩,.slice Cb nb Oc)] wr W6):=by
       unfold ai;rw[L];exact (f.past4 (p:=v) Nz (by simp[*]) _ _ _ _).drew
      have NH:ai (Kept [(⟨v,0,none⟩,.int .i64 U),(⟨v,1,none⟩,.int .i64 V),(⟨v,2,none⟩,.string ys),(⟨v,3,none⟩,.int .i64 yv)] wr W6):=by
       unfold ai;rw[L];exact ((Kept.a_ f.below).set4 (p:=v) Nz (by simp) ⟨_,j.c0⟩ ⟨_,j.c1⟩ ⟨_,j.c2⟩ ⟨_,j.c3⟩ _ _ _ _).drew
      have NI:ai (Kept [(⟨p,0,none⟩,.int .i64 0),(⟨p,1,none⟩,.int .i64 0),(⟨p,2,none⟩,.string ⟨#[]⟩),(⟨p,3,none⟩,.int .i64 0)] wr W6):=by
       unfold ai;rw[L];exact (s.past4 (p:=v) Nz (by simp[*]) _ _ _ _).drew
      have NC:ai (aA v W6):=ah (by rw[L];exact (((((J.set _ _).set _ _).set _ _).set _ _)).drew)
      have NE:ai (aA p W6):=ah (by rw[L];exact (((((H.set _ _).set _ _).set _ _).set _ _)).drew)
      have Ol:=ah L;clear L f j s J H;have f:=NG;have j:=NH;have s:=NI;have J:=NC;have H:=NE;clear NG NH NI NC NE;obtain⟨o9,Y⟩:∃ o,kM ca cb (none) (some ⟨U,V,ys,yv⟩)=o:=⟨_,rfl⟩;have OJ:=ah Y
      have g:ai (out++(o9.toList++fu aV ic (kM ca cb) (⟨Q,R,xs,xv⟩::a1) b1)=NK):=by
       have M:=g.o;rw[EU (key:=aV) (lt:=ic) (st:=kM ca cb) (x:=⟨Q,R,xs,xv⟩) (y:=⟨U,V,ys,yv⟩) X.1 X.2 a1 b1,Y]at M;exact M
      have Oi:ai (q≤200000):=by
       have M:=congrArg List.length g.o;have h2:=OA.o;have h3:=OB.o;have h4:=N.o;rw[bP]at M;unfold ai;omega
      have Ny:=vP ca Ca na Ob ba bb U V ys yv W6 O9.1 Pt f.t8.c0 ((O9.2.1.below (r.below.trans (f.below.mono r.below.size))).more (r.below.trans (f.below.mono r.below.size)).size) O9.2.2 (N8.2 _ fA)
      have Oj:ai (Calls Tryz.prog 180 #[.agg #[.int .i64 0,.int .i64 0,.string ⟨#[]⟩,.int .i64 0],.agg #[.int .i64 U,.int .i64 V,.string ys,.int .i64 yv],.pointer (some ⟨bb,0,none⟩),.pointer (some ⟨ba,0,none⟩)] W6 (vC o9 W6)):=by
       unfold ai;rw[← Y];exact Ny
      clear Ny;clear Y;rw[← Ol.o];obtain⟨k0,k1,k2,k3,-⟩:=s.cj;have k4:=j.c0;have k5:=j.c1;have k6:=j.c2;have k7:=j.c3;go_wp2_with fail;refine Oj.mono ?_;rintro e Z ⟨z,rfl,hz,O⟩;obtain⟨za,zn,zs,zv⟩:=z;have NN:=ah (f.below.trans (O.mono f.below.size));have Ot:wr.heap.size≤Z.heap.size:=NN.size;have NS:av Z (Z.alloc (.cells #[.int .i64 za,.int .i64 zn,.string zs,.int .i64 zv] 97)):=Dt.ay _ _ _;have C:ai (av wr (Z.alloc (.cells #[.int .i64 za,.int .i64 zn,.string zs,.int .i64 zv] 97))):=NN.trans (NS.mono Ot)
      have N_:((Z.alloc (.cells #[.int .i64 za,.int .i64 zn,.string zs,.int .i64 zv] 97))).heap.size=Z.heap.size+1:=by simp
      clear O NS k0 k1 k2 k3 k4 k5 k6 k7 f s j H J
      cases o9 with
      | none=>
       have g:ai (out++fu aV ic (kM ca cb) (⟨Q,R,xs,xv⟩::a1) b1=NK):=g.o;go_wp2_with fail;obtain⟨w9,NT⟩:∃ W,W=(Z.alloc (.cells #[.int .i64 za,.int .i64 zn,.string zs,.int .i64 zv] 97)):=⟨_,rfl⟩;rw[← NT]at C ⊢;clear NT N_;go_roundw
       case rel=>exact⟨_,b1,out,some ⟨t,F,none⟩,B1,Ax,n,m1,q,c,(d-1),cx,rfl,rfl,rfl,by omega,by omega,Ow,Oy.below (C.mono r.below.size),NF,NY.1,NY.2.below (C.mono r.below.size),⟨(fq.1 N8.1).2,fun e he=>N8.2 e (gY _ he)⟩,g,N,aG Og C,r.low2 NM (C.mono r.below.size)⟩
       case measure=>simp[dS];omega
      | some z9=>
       obtain rfl:=hz z9 rfl;obtain⟨A6,c6,w6,r6,NP,O⟩:=nW ((Z.alloc (.cells #[.int .i64 za,.int .i64 zn,.string zs,.int .i64 zv] 97))) w.heap.size (Z.heap.size+1) N_ (aG Og C) N (aN r.below.size C.size) (⟨za,zn,zs,zv⟩:E) (by have:=Oi.o;omega);dsimp only at r6;have NQ:=ah r6;have Oh:=ah NP;have NU:=r.below.size;have N7:ai (Below w.heap.size wr w6):=(C.mono NU).trans O
       have g:ai ((out++[⟨za,zn,zs,zv⟩])++fu aV ic (kM ca cb) (⟨Q,R,xs,xv⟩::a1) b1=NK):=by
        have M:=g.o;rw[← oh]at M;exact M
       have N:ai ((out++[(⟨za,zn,zs,zv⟩:E)]).length=q+1):=ah (by rw[bP,N.o];rfl)
       clear r6 NP O N_ NU;go_wp2_with (at_builtin;refine Lib.wpList_append_run _ rfl _ _ _ _ rfl _ _ rfl rfl _ _ NQ ?_);go_roundw
       case rel=>exact⟨_,b1,(out++[(⟨za,zn,zs,zv⟩:E)]),some ⟨t,F,none⟩,B1,A6,n,m1,(q+1),c,(d-1),c6,rfl,rfl,by go_num,by omega,by omega,Ow,Oy.below N7,NF,NY.1,NY.2.below N7,⟨(fq.1 N8.1).2,fun e he=>N8.2 e (gY _ he)⟩,g,N,Oh,r.low2 NM N7⟩
       case measure=>simp[dS];omega
     ·have X:=And.intro Pf Pn
      have f:=ah ((((((((((((Kept.nil wr).af r.c1).af r.c0).af y3).af y2).af y1).af y0).af x3).af x2).af x1).af x0).drew);obtain⟨c9,O0⟩:∃ z,Dt.lH Q R U V=z:=⟨_,rfl⟩;have Ov:=ah O0;have g1:decide (c9≤0)=true:=aJ (by have M:¬Dt.lH Q R U V<0:=fun h=>X.1 (oz.1 h);have h2:¬0<Dt.lH Q R U V:=fun h=>X.2 (AJ.1 h);omega);have g2:decide (0≤c9)=true:=aJ (by have M:¬Dt.lH Q R U V<0:=fun h=>X.1 (oz.1 h);have h2:¬0<Dt.lH Q R U V:=fun h=>X.2 (AJ.1 h);omega);clear O0;go_wp2_with fail;refine Rg (S:=fun W=>W.cell? ⟨t,F,none⟩=some (.int .i64 Q)∧W.cell? ⟨t,F+1,none⟩=some (.int .i64 R)∧W.cell? ⟨t,F+2,none⟩=some (.string xs)∧W.cell? ⟨t,F+3,none⟩=some (.int .i64 xv)∧W.cell? ⟨u,G,none⟩=some (.int .i64 U)∧W.cell? ⟨u,G+1,none⟩=some (.int .i64 V)∧W.cell? ⟨u,G+2,none⟩=some (.string ys)∧W.cell? ⟨u,G+3,none⟩=some (.int .i64 yv)) (by exact⟨f.c0,f.c1,f.c2,f.c3,f.c4,f.c5,f.c6,f.c7⟩) (fun hHeld=>?_)
      refine T4 0 24 1 25 2 26 3 27 ?_;refine T4 4 28 5 29 6 30 7 31 ?_;refine T4 8 32 9 33 10 34 11 35 ?_;refine T3 12 36 13 37 14 38 ?_;refine Tc 15 (fun K hK=>?_);go_simp;(go_at_call 178;refine (l9 ⟨Q,R,xs,xv⟩ ⟨U,V,ys,yv⟩ _).mono ?_);rw[Ov.o];rintro e v1 ⟨rfl,NJ⟩;have f:=ah (f.later NJ);clear NJ;clear hHeld;refine Th hK ?_ (fun hHeld=>?_)
      ·exact⟨f.c0,f.c1,f.c2,f.c3,f.c4,f.c5,f.c6,f.c7⟩
      clear hK K;refine T4 16 40 17 41 18 42 19 10 ?_;refine Td ?_;clear hHeld;go_wp2_with fail;have f:=ah (f.drew);refine Rg (S:=fun W=>W.cell? ⟨t,F,none⟩=some (.int .i64 Q)∧W.cell? ⟨t,F+1,none⟩=some (.int .i64 R)∧W.cell? ⟨t,F+2,none⟩=some (.string xs)∧W.cell? ⟨t,F+3,none⟩=some (.int .i64 xv)∧W.cell? ⟨u,G,none⟩=some (.int .i64 U)∧W.cell? ⟨u,G+1,none⟩=some (.int .i64 V)∧W.cell? ⟨u,G+2,none⟩=some (.string ys)∧W.cell? ⟨u,G+3,none⟩=some (.int .i64 yv)) (by exact⟨f.c0,f.c1,f.c2,f.c3,f.c4,f.c5,f.c6,f.c7⟩) (fun hHeld=>?_);refine T4 0 43 1 44 2 45 3 46 ?_;refine T3 4 47 5 48 6 49 ?_
      refine T4 7 50 8 51 9 52 10 53 ?_;refine T4 11 54 12 55 13 56 14 57 ?_;refine Tc 15 (fun K hK=>?_);go_simp;(go_at_call 178;refine (l9 ⟨Q,R,xs,xv⟩ ⟨U,V,ys,yv⟩ _).mono ?_);rw[Ov.o];rintro e v2 ⟨rfl,NJ⟩;have f:=ah (f.later NJ);clear NJ;clear hHeld;refine Th hK ?_ (fun hHeld=>?_)
      ·exact⟨f.c0,f.c1,f.c2,f.c3,f.c4,f.c5,f.c6,f.c7⟩
      clear hK K;refine T4 16 59 17 60 18 61 19 11 ?_;refine Td ?_;clear hHeld;have Ou:=f.below.size;obtain⟨W5,p,v,NZ,NA,N9,s,j,H,J,NR⟩:=BR (v2);have f:=ah (f.later NR);have s:=ah (s.rebase f.below);have j:=ah (j.rebase f.below)
      have Oa:wr.heap.size≤p:=by have:=NA.o;omega
      have Nz:wr.heap.size≤v:=by have:=N9.o;omega
      have OP:¬p=v:=by have:=N9.o;omega
      have O7:¬v=p:=by omega
      have NV:=r.below.size
      have OL:¬ba=p:=by have:=Od.o;omega
      have O5:¬ba=v:=by have:=Od.o;omega
      have OM:¬bb=p:=by have:=Oe.o;omega
      have O6:¬bb=v:=by have:=Oe.o;omega
      have OV:¬t=p:=by omega
      have OC:¬t=v:=by omega
      have OW:¬p=t:=by omega
      have OD:¬v=t:=by omega
      have OX:¬u=p:=by omega
      have OE:¬u=v:=by omega
      have OY:¬p=u:=by omega
      have OG:¬v=u:=by omega
      clear Ou NR NV;go_wp2_with fail;rw[← NA.o,← N9.o,← NZ.o];obtain⟨s0,s1,s2,s3,-⟩:=s.cj;have m0:=H.2 0;have m1:=H.2 1;have m2:=H.2 2;have m3:=H.2 3;obtain⟨t0,t1,t2,t3,-⟩:=f.cj;refine Rk (S:=fun W=>W.cell? ⟨t,F,none⟩=some (.int .i64 Q)∧W.cell? ⟨t,F+1,none⟩=some (.int .i64 R)∧W.cell? ⟨t,F+2,none⟩=some (.string xs)∧W.cell? ⟨t,F+3,none⟩=some (.int .i64 xv)) (fun hHeld=>?_);refine T4 0 63 1 64 2 65 3 66 ?_;refine Tk 4 67 ?_;refine Tc 5 (fun K hK=>?_);go_simp;refine Th hK ?_ (fun D=>?_)
      ·(try dsimp only);go_keep
      clear hK K hHeld;have hHeld:=D;clear D;refine Tk 6 0 ?_;refine Td ?_;clear hHeld s0 s1 s2 s3 m0 m1 m2 m3 t0 t1 t2 t3;obtain⟨W6,L⟩:∃ W,W=(((((W5.setCell ⟨p,0,none⟩ (.int .i64 Q)).setCell ⟨p,1,none⟩ (.int .i64 R)).setCell ⟨p,2,none⟩ (.string xs)).setCell ⟨p,3,none⟩ (.int .i64 xv))).drew:=⟨_,rfl⟩
      have NG:ai (Kept [(⟨t,F,none⟩,.int .i64 Q),(⟨t,F+1,none⟩,.int .i64 R),(⟨t,F+2,none⟩,.string xs),(⟨t,F+3,none⟩,.int .i64 xv),(⟨u,G,none⟩,.int .i64 U),(⟨u,G+1,none⟩,.int .i64 V),(⟨u,G+2,none⟩,.string ys),(⟨u,G+3,none⟩,.int .i64 yv),(⟨ba,2,none⟩,.slice Ca na Ob),(⟨bb,2,none⟩,.slice Cb nb Oc)] wr W6):=by
       unfold ai;rw[L];exact (f.past4 (p:=p) Oa (by simp[*]) _ _ _ _).drew
      have NH:ai (Kept [(⟨p,0,none⟩,.int .i64 Q),(⟨p,1,none⟩,.int .i64 R),(⟨p,2,none⟩,.string xs),(⟨p,3,none⟩,.int .i64 xv)] wr W6):=by
       unfold ai;rw[L];exact ((Kept.a_ f.below).set4 (p:=p) Oa (by simp) ⟨_,s.c0⟩ ⟨_,s.c1⟩ ⟨_,s.c2⟩ ⟨_,s.c3⟩ _ _ _ _).drew
      have NI:ai (Kept [(⟨v,0,none⟩,.int .i64 0),(⟨v,1,none⟩,.int .i64 0),(⟨v,2,none⟩,.string ⟨#[]⟩),(⟨v,3,none⟩,.int .i64 0)] wr W6):=by
       unfold ai;rw[L];exact (j.past4 (p:=p) Oa (by simp[*]) _ _ _ _).drew
      have NC:ai (aA p W6):=ah (by rw[L];exact (((((H.set _ _).set _ _).set _ _).set _ _)).drew)
      have NE:ai (aA v W6):=ah (by rw[L];exact (((((J.set _ _).set _ _).set _ _).set _ _)).drew)
      have Ol:=ah L;clear L f s j H J;have f:=NG;have s:=NH;have j:=NI;have H:=NC;have J:=NE;clear NG NH NI NC NE;rw[← Ol.o];go_wp2_with fail;obtain⟨s0,s1,s2,s3,-⟩:=j.cj;have m0:=J.2 0;have m1:=J.2 1;have m2:=J.2 2;have m3:=J.2 3;have t0:=f.c4;have t1:=f.c5;have t2:=f.c6;have t3:=f.c7;refine Rk (S:=fun W=>W.cell? ⟨u,G,none⟩=some (.int .i64 U)∧W.cell? ⟨u,G+1,none⟩=some (.int .i64 V)∧W.cell? ⟨u,G+2,none⟩=some (.string ys)∧W.cell? ⟨u,G+3,none⟩=some (.int .i64 yv)) (fun hHeld=>?_);refine T4 0 69 1 70 2 71 3 72 ?_;refine Tk 4 73 ?_;refine Tc 5 (fun K hK=>?_);go_simp;refine Th hK ?_ (fun D=>?_)
      ·(try dsimp only);go_keep
      clear hK K hHeld;have hHeld:=D;clear D;refine Tk 6 1 ?_;refine Td ?_;clear hHeld s0 s1 s2 s3 m0 m1 m2 m3 t0 t1 t2 t3;obtain⟨W7,O4⟩:∃ W,W=(((((W6.setCell ⟨v,0,none⟩ (.int .i64 U)).setCell ⟨v,1,none⟩ (.int .i64 V)).setCell ⟨v,2,none⟩ (.string ys)).setCell ⟨v,3,none⟩ (.int .i64 yv))).drew:=⟨_,rfl⟩
      have NG:ai (Kept [(⟨t,F,none⟩,.int .i64 Q),(⟨t,F+1,none⟩,.int .i64 R),(⟨t,F+2,none⟩,.string xs),(⟨t,F+3,none⟩,.int .i64 xv),(⟨u,G,none⟩,.int .i64 U),(⟨u,G+1,none⟩,.int .i64 V),(⟨u,G+2,none⟩,.string ys),(⟨u,G+3,none⟩,.int .i64 yv),(⟨ba,2,none⟩,.slice Ca na Ob),(⟨bb,2,none⟩,.slice Cb nb Oc)] wr W7):=by
       unfold ai;rw[O4];exact (f.past4 (p:=v) Nz (by simp[*]) _ _ _ _).drew
      have NH:ai (Kept [(⟨v,0,none⟩,.int .i64 U),(⟨v,1,none⟩,.int .i64 V),(⟨v,2,none⟩,.string ys),(⟨v,3,none⟩,.int .i64 yv)] wr W7):=by
       unfold ai;rw[O4];exact ((Kept.a_ f.below).set4 (p:=v) Nz (by simp) ⟨_,j.c0⟩ ⟨_,j.c1⟩ ⟨_,j.c2⟩ ⟨_,j.c3⟩ _ _ _ _).drew
      have NI:ai (Kept [(⟨p,0,none⟩,.int .i64 Q),(⟨p,1,none⟩,.int .i64 R),(⟨p,2,none⟩,.string xs),(⟨p,3,none⟩,.int .i64 xv)] wr W7):=by
       unfold ai;rw[O4];exact (s.past4 (p:=v) Nz (by simp[*]) _ _ _ _).drew
      have NC:ai (aA v W7):=ah (by rw[O4];exact (((((J.set _ _).set _ _).set _ _).set _ _)).drew)
      have NE:ai (aA p W7):=ah (by rw[O4];exact (((((H.set _ _).set _ _).set _ _).set _ _)).drew)
      have P_:=ah O4;clear O4 f j s J H;have f:=NG;have j:=NH;have s:=NI;have J:=NC;have H:=NE;clear NG NH NI NC NE;obtain⟨o9,Y⟩:∃ o,kM ca cb (some ⟨Q,R,xs,xv⟩) (some ⟨U,V,ys,yv⟩)=o:=⟨_,rfl⟩;have OJ:=ah Y
      have g:ai (out++(o9.toList++fu aV ic (kM ca cb) a1 b1)=NK):=by
       have M:=g.o;rw[ET (key:=aV) (lt:=ic) (st:=kM ca cb) (x:=⟨Q,R,xs,xv⟩) (y:=⟨U,V,ys,yv⟩) X.1 X.2 a1 b1,Y]at M;exact M
      have Oi:ai (q≤200000):=by
       have M:=congrArg List.length g.o;have h2:=OA.o;have h3:=OB.o;have h4:=N.o;rw[bP]at M;unfold ai;omega
      have Ny:=F8 ba bb Q R xs xv U V ys yv W7 (NF.2 _ fA) (N8.2 _ fA)
      have Oj:ai (Calls Tryz.prog 180 #[.agg #[.int .i64 Q,.int .i64 R,.string xs,.int .i64 xv],.agg #[.int .i64 U,.int .i64 V,.string ys,.int .i64 yv],.pointer (some ⟨bb,0,none⟩),.pointer (some ⟨ba,0,none⟩)] W7 (vC o9 W7)):=by
       unfold ai;rw[← Y];exact Ny
      clear Ny;clear Y;rw[← P_.o];obtain⟨k0,k1,k2,k3,-⟩:=s.cj;have k4:=j.c0;have k5:=j.c1;have k6:=j.c2;have k7:=j.c3;go_wp2_with fail;refine Oj.mono ?_;rintro e Z ⟨z,rfl,hz,O⟩;obtain⟨za,zn,zs,zv⟩:=z;have NN:=ah (f.below.trans (O.mono f.below.size));have Ot:wr.heap.size≤Z.heap.size:=NN.size;have NS:av Z (Z.alloc (.cells #[.int .i64 za,.int .i64 zn,.string zs,.int .i64 zv] 97)):=Dt.ay _ _ _;have C:ai (av wr (Z.alloc (.cells #[.int .i64 za,.int .i64 zn,.string zs,.int .i64 zv] 97))):=NN.trans (NS.mono Ot)
      have N_:((Z.alloc (.cells #[.int .i64 za,.int .i64 zn,.string zs,.int .i64 zv] 97))).heap.size=Z.heap.size+1:=by simp
      clear O NS k0 k1 k2 k3 k4 k5 k6 k7 f s j H J
      cases o9 with
      | none=>
       have g:ai (out++fu aV ic (kM ca cb) a1 b1=NK):=g.o;go_wp2_with fail;obtain⟨w9,NT⟩:∃ W,W=(Z.alloc (.cells #[.int .i64 za,.int .i64 zn,.string zs,.int .i64 zv] 97)):=⟨_,rfl⟩;rw[← NT]at C ⊢;clear NT N_;go_roundw
       case rel=>exact⟨a1,b1,out,A1,B1,Ax,n1,m1,q,(c-1),(d-1),cx,rfl,rfl,rfl,by omega,by omega,NW.1,NW.2.below (C.mono r.below.size),⟨(fq.1 NF.1).2,fun e he=>NF.2 e (gY _ he)⟩,NY.1,NY.2.below (C.mono r.below.size),⟨(fq.1 N8.1).2,fun e he=>N8.2 e (gY _ he)⟩,g,N,aG Og C,r.low2 NM (C.mono r.below.size)⟩
       case measure=>simp[dS];omega
      | some z9=>
       obtain rfl:=hz z9 rfl;obtain⟨A6,c6,w6,r6,NP,O⟩:=nW ((Z.alloc (.cells #[.int .i64 za,.int .i64 zn,.string zs,.int .i64 zv] 97))) w.heap.size (Z.heap.size+1) N_ (aG Og C) N (aN r.below.size C.size) (⟨za,zn,zs,zv⟩:E) (by have:=Oi.o;omega);dsimp only at r6;have NQ:=ah r6;have Oh:=ah NP;have NU:=r.below.size;have N7:ai (Below w.heap.size wr w6):=(C.mono NU).trans O
       have g:ai ((out++[⟨za,zn,zs,zv⟩])++fu aV ic (kM ca cb) a1 b1=NK):=by
        have M:=g.o;rw[← oh]at M;exact M
       have N:ai ((out++[(⟨za,zn,zs,zv⟩:E)]).length=q+1):=ah (by rw[bP,N.o];rfl)
       clear r6 NP O N_ NU;go_wp2_with (at_builtin;refine Lib.wpList_append_run _ rfl _ _ _ _ rfl _ _ rfl rfl _ _ NQ ?_);go_roundw
       case rel=>exact⟨a1,b1,(out++[(⟨za,zn,zs,zv⟩:E)]),A1,B1,A6,n1,m1,(q+1),(c-1),(d-1),c6,rfl,rfl,by go_num,by omega,by omega,NW.1,NW.2.below N7,⟨(fq.1 NF.1).2,fun e he=>NF.2 e (gY _ he)⟩,NY.1,NY.2.below N7,⟨(fq.1 N8.1).2,fun e he=>N8.2 e (gY _ he)⟩,g,N,Oh,r.low2 NM N7⟩
       case measure=>simp[dS];omega
   ·obtain rfl:m=0:=by omega
    obtain rfl:b=[]:=jE.1 Ox
    obtain⟨x,a1,rfl⟩:∃ x l,a=x::l:=by
     cases a with
     | nil=>have M:=Ow.o;simp at M;omega
     | cons x l=>exact⟨x,l,rfl⟩
    obtain⟨Q,R,xs,xv⟩:=x;obtain⟨t,F,rfl,OQ,hc⟩:=fJ gQ Oy (m:=0) (by omega)
    have x0:wr.cell? ⟨t,F,none⟩=some (.int .i64 Q):=by have:=hc 0 (by simp) 0 _ rfl;simpa using this
    have x1:wr.cell? ⟨t,F+1,none⟩=some (.int .i64 R):=by have:=hc 0 (by simp) 1 _ rfl;simpa using this
    have x2:wr.cell? ⟨t,F+2,none⟩=some (.string xs):=by have:=hc 0 (by simp) 2 _ rfl;simpa using this
    have x3:wr.cell? ⟨t,F+3,none⟩=some (.int .i64 xv):=by have:=hc 0 (by simp) 3 _ rfl;simpa using this
    have P7:t<wr.heap.size:=aL wr _ x0;obtain⟨n1,Oq⟩:∃ z,z=n-1:=⟨_,rfl⟩
    obtain⟨A1,O1⟩:∃ z,z=(if c=1 then some (⟨t,F,none⟩:Addr)else (some (⟨t,F,none⟩:Addr)).map (·.add (1*4))):=⟨_,rfl⟩
    have Pd:∀ W,(Instr.slice 32 (.slice (some ⟨t,F,none⟩) n c) (some (.int .i64 1)) none none).run Tryz.prog W = .ok (.slice A1 n1 (c-1)) W:=fun W=>by
     have M:=dV (P:=Tryz.prog) 32 97 4 Tryz.underlying32 OO OU (some ⟨t,F,none⟩) n c 1 (by omega) W;rw[← O1,← Oq]at M;exact M
    have NW:ai (a1.length=n1∧Rd wr w.heap.size 4 A1 n1 (c-1) (bV a1)):=by
     have M:=Oy.from_ (i:=1) (by omega);have h2:=Ow.o;refine⟨by rw[Oq];simp at h2;omega,?_⟩;rw[O1,Oq];exact M
    have PI:((n:Int)==0)=false:=by rw[gP];omega
    have PK:decide ((0:Int)<(n:Int))=true:=aJ (by omega)
    have Px:n1+1=n:=by omega
    clear hc Oq O1;have f:=ah ((((((((Kept.nil wr).af r.c1).af r.c0).af x3).af x2).af x1).af x0).drew);go_wp2_with fail;refine Rg (S:=fun W=>W.cell? ⟨t,F,none⟩=some (.int .i64 Q)∧W.cell? ⟨t,F+1,none⟩=some (.int .i64 R)∧W.cell? ⟨t,F+2,none⟩=some (.string xs)∧W.cell? ⟨t,F+3,none⟩=some (.int .i64 xv)) (by exact⟨f.c0,f.c1,f.c2,f.c3⟩) (fun hHeld=>?_);refine T4 0 24 1 25 2 26 3 27 ?_;refine U4 4 28 5 29 6 30 7 31 ?_;refine U4 8 32 9 33 10 34 11 35 ?_;refine U4 12 36 13 37 14 38 15 39 ?_;refine U2 16 40 17 41 ?_;refine T2 18 42 19 10 ?_;refine Td ?_
    clear hHeld;go_wp2_with fail;have f:=ah (f.drew);refine Rg (S:=fun W=>W.cell? ⟨t,F,none⟩=some (.int .i64 Q)∧W.cell? ⟨t,F+1,none⟩=some (.int .i64 R)∧W.cell? ⟨t,F+2,none⟩=some (.string xs)∧W.cell? ⟨t,F+3,none⟩=some (.int .i64 xv)) (by exact⟨f.c0,f.c1,f.c2,f.c3⟩) (fun hHeld=>?_);refine T4 0 43 1 44 2 45 3 46 ?_;refine T4 4 47 5 48 6 49 7 50 ?_;refine U4 8 51 9 52 10 53 11 54 ?_;refine U4 12 55 13 56 14 57 15 58 ?_;refine Tn 16 59 ?_;refine T3 17 60 18 61 19 11 ?_;refine Td ?_;clear hHeld;have Ou:=f.below.size;obtain⟨W5,p,v,NZ,NA,N9,s,j,H,J,NR⟩:=BR (wr.drew.drew)
    have f:=ah (f.later NR);have s:=ah (s.rebase f.below);have j:=ah (j.rebase f.below);have NZ:ai (W5=((wr.alloc (.cells #[.int .i64 0,.int .i64 0,.string ⟨#[]⟩,.int .i64 0] 97)).alloc (.cells #[.int .i64 0,.int .i64 0,.string ⟨#[]⟩,.int .i64 0] 97)).drew.drew):=NZ.o;have NA:ai (p=wr.heap.size):=NA.o
    have Oa:wr.heap.size≤p:=by have:=NA.o;omega
    have Nz:wr.heap.size≤v:=by have:=N9.o;omega
    have OP:¬p=v:=by have:=N9.o;omega
    have O7:¬v=p:=by omega
    have NV:=r.below.size
    have OL:¬ba=p:=by have:=Od.o;omega
    have O5:¬ba=v:=by have:=Od.o;omega
    have OM:¬bb=p:=by have:=Oe.o;omega
    have O6:¬bb=v:=by have:=Oe.o;omega
    have OV:¬t=p:=by omega
    have OC:¬t=v:=by omega
    have OW:¬p=t:=by omega
    have OD:¬v=t:=by omega
    clear Ou NR NV;go_wp2_with fail;rw[← NA.o,← N9.o,← NZ.o];obtain⟨s0,s1,s2,s3,-⟩:=s.cj;have m0:=H.2 0;have m1:=H.2 1;have m2:=H.2 2;have m3:=H.2 3;obtain⟨t0,t1,t2,t3,-⟩:=f.cj;refine Rk (S:=fun W=>W.cell? ⟨t,F,none⟩=some (.int .i64 Q)∧W.cell? ⟨t,F+1,none⟩=some (.int .i64 R)∧W.cell? ⟨t,F+2,none⟩=some (.string xs)∧W.cell? ⟨t,F+3,none⟩=some (.int .i64 xv)) (fun hHeld=>?_);refine T4 0 63 1 64 2 65 3 66 ?_;refine Tk 4 67 ?_;refine Tc 5 (fun K hK=>?_);go_simp;refine Th hK ?_ (fun D=>?_)
    ·(try dsimp only);go_keep
    clear hK K hHeld;have hHeld:=D;clear D;refine Tk 6 0 ?_;refine Td ?_;clear hHeld s0 s1 s2 s3 m0 m1 m2 m3 t0 t1 t2 t3;obtain⟨W6,L⟩:∃ W,W=(((((W5.setCell ⟨p,0,none⟩ (.int .i64 Q)).setCell ⟨p,1,none⟩ (.int .i64 R)).setCell ⟨p,2,none⟩ (.string xs)).setCell ⟨p,3,none⟩ (.int .i64 xv))).drew:=⟨_,rfl⟩
    have NG:ai (Kept [(⟨t,F,none⟩,.int .i64 Q),(⟨t,F+1,none⟩,.int .i64 R),(⟨t,F+2,none⟩,.string xs),(⟨t,F+3,none⟩,.int .i64 xv),(⟨ba,2,none⟩,.slice Ca na Ob),(⟨bb,2,none⟩,.slice Cb nb Oc)] wr W6):=by
     unfold ai;rw[L];exact (f.past4 (p:=p) Oa (by simp[*]) _ _ _ _).drew
    have NH:ai (Kept [(⟨p,0,none⟩,.int .i64 Q),(⟨p,1,none⟩,.int .i64 R),(⟨p,2,none⟩,.string xs),(⟨p,3,none⟩,.int .i64 xv)] wr W6):=by
     unfold ai;rw[L];exact ((Kept.a_ f.below).set4 (p:=p) Oa (by simp) ⟨_,s.c0⟩ ⟨_,s.c1⟩ ⟨_,s.c2⟩ ⟨_,s.c3⟩ _ _ _ _).drew
    have NI:ai (Kept [(⟨v,0,none⟩,.int .i64 0),(⟨v,1,none⟩,.int .i64 0),(⟨v,2,none⟩,.string ⟨#[]⟩),(⟨v,3,none⟩,.int .i64 0)] wr W6):=by
     unfold ai;rw[L];exact (j.past4 (p:=p) Oa (by simp[*]) _ _ _ _).drew
    have NC:ai (aA p W6):=ah (by rw[L];exact (((((H.set _ _).set _ _).set _ _).set _ _)).drew)
    have NE:ai (aA v W6):=ah (by rw[L];exact (((((J.set _ _).set _ _).set _ _).set _ _)).drew)
    have Ol:=ah L;clear L f s j H J;have f:=NG;have s:=NH;have j:=NI;have H:=NC;have J:=NE;clear NG NH NI NC NE;obtain⟨o9,Y⟩:∃ o,kM ca cb (some ⟨Q,R,xs,xv⟩) (none)=o:=⟨_,rfl⟩;have OJ:=ah Y
    have g:ai (out++(o9.toList++fu aV ic (kM ca cb) a1 [])=NK):=by
     have M:=g.o;rw[xE (key:=aV) (lt:=ic) (st:=kM ca cb) (⟨Q,R,xs,xv⟩:E) a1,Y]at M;exact M
    have Oi:ai (q≤200000):=by
     have M:=congrArg List.length g.o;have h2:=OA.o;have h3:=OB.o;have h4:=N.o;rw[bP]at M;unfold ai;omega
    have Ny:=yh cb Cb nb Oc ba bb Q R xs xv W6 O_.1 Pv f.c5 ((O_.2.1.below (r.below.trans (f.below.mono r.below.size))).more (r.below.trans (f.below.mono r.below.size)).size) O_.2.2
    have Oj:ai (Calls Tryz.prog 180 #[.agg #[.int .i64 Q,.int .i64 R,.string xs,.int .i64 xv],.agg #[.int .i64 0,.int .i64 0,.string ⟨#[]⟩,.int .i64 0],.pointer (some ⟨bb,0,none⟩),.pointer (some ⟨ba,0,none⟩)] W6 (vC o9 W6)):=by
     unfold ai;rw[← Y];exact Ny
    clear Ny;clear Y;rw[← Ol.o];obtain⟨k0,k1,k2,k3,-⟩:=s.cj;have k4:=j.c0;have k5:=j.c1;have k6:=j.c2;have k7:=j.c3;go_wp2_with fail;refine Oj.mono ?_;rintro e Z ⟨z,rfl,hz,O⟩;obtain⟨za,zn,zs,zv⟩:=z;have NN:=ah (f.below.trans (O.mono f.below.size));have Ot:wr.heap.size≤Z.heap.size:=NN.size;have NS:av Z (Z.alloc (.cells #[.int .i64 za,.int .i64 zn,.string zs,.int .i64 zv] 97)):=Dt.ay _ _ _;have C:ai (av wr (Z.alloc (.cells #[.int .i64 za,.int .i64 zn,.string zs,.int .i64 zv] 97))):=NN.trans (NS.mono Ot)
    have N_:((Z.alloc (.cells #[.int .i64 za,.int .i64 zn,.string zs,.int .i64 zv] 97))).heap.size=Z.heap.size+1:=by simp
    clear O NS k0 k1 k2 k3 k4 k5 k6 k7 f s j H J
    cases o9 with
    | none=>
     have g:ai (out++fu aV ic (kM ca cb) a1 []=NK):=g.o;go_wp2_with fail;obtain⟨w9,NT⟩:∃ W,W=(Z.alloc (.cells #[.int .i64 za,.int .i64 zn,.string zs,.int .i64 zv] 97)):=⟨_,rfl⟩;rw[← NT]at C ⊢;clear NT N_;go_roundw
     case rel=>exact⟨a1,[],out,A1,B,Ax,n1,0,q,(c-1),d,cx,rfl,rfl,rfl,by omega,by omega,NW.1,NW.2.below (C.mono r.below.size),⟨(fq.1 NF.1).2,fun e he=>NF.2 e (gY _ he)⟩,rfl,Oz.below (C.mono r.below.size),N8,g,N,aG Og C,r.low2 NM (C.mono r.below.size)⟩
     case measure=>simp[dS];omega
    | some z9=>
     obtain rfl:=hz z9 rfl;obtain⟨A6,c6,w6,r6,NP,O⟩:=nW ((Z.alloc (.cells #[.int .i64 za,.int .i64 zn,.string zs,.int .i64 zv] 97))) w.heap.size (Z.heap.size+1) N_ (aG Og C) N (aN r.below.size C.size) (⟨za,zn,zs,zv⟩:E) (by have:=Oi.o;omega);dsimp only at r6;have NQ:=ah r6;have Oh:=ah NP;have NU:=r.below.size;have N7:ai (Below w.heap.size wr w6):=(C.mono NU).trans O
     have g:ai ((out++[⟨za,zn,zs,zv⟩])++fu aV ic (kM ca cb) a1 []=NK):=by
      have M:=g.o;rw[← oh]at M;exact M
     have N:ai ((out++[(⟨za,zn,zs,zv⟩:E)]).length=q+1):=ah (by rw[bP,N.o];rfl)
     clear r6 NP O N_ NU;go_wp2_with (at_builtin;refine Lib.wpList_append_run _ rfl _ _ _ _ rfl _ _ rfl rfl _ _ NQ ?_);go_roundw
     case rel=>exact⟨a1,[],(out++[(⟨za,zn,zs,zv⟩:E)]),A1,B,A6,n1,0,(q+1),(c-1),d,c6,rfl,rfl,by go_num,by omega,by omega,NW.1,NW.2.below N7,⟨(fq.1 NF.1).2,fun e he=>NF.2 e (gY _ he)⟩,rfl,Oz.below N7,N8,g,N,Oh,r.low2 NM N7⟩
     case measure=>simp[dS];omega
  ·by_cases PL:0<m
   ·obtain rfl:n=0:=by omega
    obtain rfl:a=[]:=jE.1 Ow
    obtain⟨y,b1,rfl⟩:∃ x l,b=x::l:=by
     cases b with
     | nil=>have M:=Ox.o;simp at M;omega
     | cons x l=>exact⟨x,l,rfl⟩
    obtain⟨U,V,ys,yv⟩:=y;obtain⟨u,G,rfl,OT,hc⟩:=fJ gQ Oz (m:=0) (by omega)
    have y0:wr.cell? ⟨u,G,none⟩=some (.int .i64 U):=by have:=hc 0 (by simp) 0 _ rfl;simpa using this
    have y1:wr.cell? ⟨u,G+1,none⟩=some (.int .i64 V):=by have:=hc 0 (by simp) 1 _ rfl;simpa using this
    have y2:wr.cell? ⟨u,G+2,none⟩=some (.string ys):=by have:=hc 0 (by simp) 2 _ rfl;simpa using this
    have y3:wr.cell? ⟨u,G+3,none⟩=some (.int .i64 yv):=by have:=hc 0 (by simp) 3 _ rfl;simpa using this
    have P8:u<wr.heap.size:=aL wr _ y0;obtain⟨m1,Oo⟩:∃ z,z=m-1:=⟨_,rfl⟩
    obtain⟨B1,O3⟩:∃ z,z=(if d=1 then some (⟨u,G,none⟩:Addr)else (some (⟨u,G,none⟩:Addr)).map (·.add (1*4))):=⟨_,rfl⟩
    have Pe:∀ W,(Instr.slice 32 (.slice (some ⟨u,G,none⟩) m d) (some (.int .i64 1)) none none).run Tryz.prog W = .ok (.slice B1 m1 (d-1)) W:=fun W=>by
     have M:=dV (P:=Tryz.prog) 32 97 4 Tryz.underlying32 OO OU (some ⟨u,G,none⟩) m d 1 (by omega) W;rw[← O3,← Oo]at M;exact M
    have NY:ai (b1.length=m1∧Rd wr w.heap.size 4 B1 m1 (d-1) (bV b1)):=by
     have M:=Oz.from_ (i:=1) (by omega);have h2:=Ox.o;refine⟨by rw[Oo];simp at h2;omega,?_⟩;rw[O3,Oo];exact M
    have PE:((m:Int)==0)=false:=by rw[gP];omega
    have PG:decide ((0:Int)<(m:Int))=true:=aJ (by omega)
    have Pw:m1+1=m:=by omega
    clear hc Oo O3;have f:=ah ((((((((Kept.nil wr).af r.c1).af r.c0).af y3).af y2).af y1).af y0).drew);go_wp2_with fail;refine Rg (S:=fun W=>W.cell? ⟨u,G,none⟩=some (.int .i64 U)∧W.cell? ⟨u,G+1,none⟩=some (.int .i64 V)∧W.cell? ⟨u,G+2,none⟩=some (.string ys)∧W.cell? ⟨u,G+3,none⟩=some (.int .i64 yv)) (by exact⟨f.c0,f.c1,f.c2,f.c3⟩) (fun hHeld=>?_);refine T4 0 24 1 25 2 26 3 27 ?_;refine T4 4 28 5 29 6 30 7 31 ?_;refine U4 8 32 9 33 10 34 11 35 ?_;refine U4 12 36 13 37 14 38 15 39 ?_;refine Tn 16 40 ?_;refine T3 17 41 18 42 19 10 ?_;refine Td ?_
    clear hHeld;go_wp2_with fail;have f:=ah (f.drew);refine Rg (S:=fun W=>W.cell? ⟨u,G,none⟩=some (.int .i64 U)∧W.cell? ⟨u,G+1,none⟩=some (.int .i64 V)∧W.cell? ⟨u,G+2,none⟩=some (.string ys)∧W.cell? ⟨u,G+3,none⟩=some (.int .i64 yv)) (by exact⟨f.c0,f.c1,f.c2,f.c3⟩) (fun hHeld=>?_);refine T4 0 43 1 44 2 45 3 46 ?_;refine U4 4 47 5 48 6 49 7 50 ?_;refine U4 8 51 9 52 10 53 11 54 ?_;refine U4 12 55 13 56 14 57 15 58 ?_;refine U2 16 59 17 60 ?_;refine T2 18 61 19 11 ?_;refine Td ?_;clear hHeld;have Ou:=f.below.size;obtain⟨W5,p,v,NZ,NA,N9,s,j,H,J,NR⟩:=BR (wr.drew.drew)
    have f:=ah (f.later NR);have s:=ah (s.rebase f.below);have j:=ah (j.rebase f.below);have NZ:ai (W5=((wr.alloc (.cells #[.int .i64 0,.int .i64 0,.string ⟨#[]⟩,.int .i64 0] 97)).alloc (.cells #[.int .i64 0,.int .i64 0,.string ⟨#[]⟩,.int .i64 0] 97)).drew.drew):=NZ.o;have NA:ai (p=wr.heap.size):=NA.o
    have Oa:wr.heap.size≤p:=by have:=NA.o;omega
    have Nz:wr.heap.size≤v:=by have:=N9.o;omega
    have OP:¬p=v:=by have:=N9.o;omega
    have O7:¬v=p:=by omega
    have NV:=r.below.size
    have OL:¬ba=p:=by have:=Od.o;omega
    have O5:¬ba=v:=by have:=Od.o;omega
    have OM:¬bb=p:=by have:=Oe.o;omega
    have O6:¬bb=v:=by have:=Oe.o;omega
    have OX:¬u=p:=by omega
    have OE:¬u=v:=by omega
    have OY:¬p=u:=by omega
    have OG:¬v=u:=by omega
    clear Ou NR NV;go_wp2_with fail;rw[← NA.o,← N9.o,← NZ.o];obtain⟨s0,s1,s2,s3,-⟩:=j.cj;have m0:=J.2 0;have m1:=J.2 1;have m2:=J.2 2;have m3:=J.2 3;obtain⟨t0,t1,t2,t3,-⟩:=f.cj;refine Rk (S:=fun W=>W.cell? ⟨u,G,none⟩=some (.int .i64 U)∧W.cell? ⟨u,G+1,none⟩=some (.int .i64 V)∧W.cell? ⟨u,G+2,none⟩=some (.string ys)∧W.cell? ⟨u,G+3,none⟩=some (.int .i64 yv)) (fun hHeld=>?_);refine T4 0 69 1 70 2 71 3 72 ?_;refine Tk 4 73 ?_;refine Tc 5 (fun K hK=>?_);go_simp;refine Th hK ?_ (fun D=>?_)
    ·(try dsimp only);go_keep
    clear hK K hHeld;have hHeld:=D;clear D;refine Tk 6 1 ?_;refine Td ?_;clear hHeld s0 s1 s2 s3 m0 m1 m2 m3 t0 t1 t2 t3;obtain⟨W6,L⟩:∃ W,W=(((((W5.setCell ⟨v,0,none⟩ (.int .i64 U)).setCell ⟨v,1,none⟩ (.int .i64 V)).setCell ⟨v,2,none⟩ (.string ys)).setCell ⟨v,3,none⟩ (.int .i64 yv))).drew:=⟨_,rfl⟩
    have NG:ai (Kept [(⟨u,G,none⟩,.int .i64 U),(⟨u,G+1,none⟩,.int .i64 V),(⟨u,G+2,none⟩,.string ys),(⟨u,G+3,none⟩,.int .i64 yv),(⟨ba,2,none⟩,.slice Ca na Ob),(⟨bb,2,none⟩,.slice Cb nb Oc)] wr W6):=by
     unfold ai;rw[L];exact (f.past4 (p:=v) Nz (by simp[*]) _ _ _ _).drew
    have NH:ai (Kept [(⟨v,0,none⟩,.int .i64 U),(⟨v,1,none⟩,.int .i64 V),(⟨v,2,none⟩,.string ys),(⟨v,3,none⟩,.int .i64 yv)] wr W6):=by
     unfold ai;rw[L];exact ((Kept.a_ f.below).set4 (p:=v) Nz (by simp) ⟨_,j.c0⟩ ⟨_,j.c1⟩ ⟨_,j.c2⟩ ⟨_,j.c3⟩ _ _ _ _).drew
    have NI:ai (Kept [(⟨p,0,none⟩,.int .i64 0),(⟨p,1,none⟩,.int .i64 0),(⟨p,2,none⟩,.string ⟨#[]⟩),(⟨p,3,none⟩,.int .i64 0)] wr W6):=by
     unfold ai;rw[L];exact (s.past4 (p:=v) Nz (by simp[*]) _ _ _ _).drew
    have NC:ai (aA v W6):=ah (by rw[L];exact (((((J.set _ _).set _ _).set _ _).set _ _)).drew)
    have NE:ai (aA p W6):=ah (by rw[L];exact (((((H.set _ _).set _ _).set _ _).set _ _)).drew)
    have Ol:=ah L;clear L f j s J H;have f:=NG;have j:=NH;have s:=NI;have J:=NC;have H:=NE;clear NG NH NI NC NE;obtain⟨o9,Y⟩:∃ o,kM ca cb (none) (some ⟨U,V,ys,yv⟩)=o:=⟨_,rfl⟩;have OJ:=ah Y
    have g:ai (out++(o9.toList++fu aV ic (kM ca cb) [] b1)=NK):=by
     have M:=g.o;rw[uI (key:=aV) (lt:=ic) (st:=kM ca cb) (⟨U,V,ys,yv⟩:E) b1,Y]at M;exact M
    have Oi:ai (q≤200000):=by
     have M:=congrArg List.length g.o;have h2:=OA.o;have h3:=OB.o;have h4:=N.o;rw[bP]at M;unfold ai;omega
    have Ny:=vP ca Ca na Ob ba bb U V ys yv W6 O9.1 Pt f.c4 ((O9.2.1.below (r.below.trans (f.below.mono r.below.size))).more (r.below.trans (f.below.mono r.below.size)).size) O9.2.2 (N8.2 _ fA)
    have Oj:ai (Calls Tryz.prog 180 #[.agg #[.int .i64 0,.int .i64 0,.string ⟨#[]⟩,.int .i64 0],.agg #[.int .i64 U,.int .i64 V,.string ys,.int .i64 yv],.pointer (some ⟨bb,0,none⟩),.pointer (some ⟨ba,0,none⟩)] W6 (vC o9 W6)):=by
     unfold ai;rw[← Y];exact Ny
    clear Ny;clear Y;rw[← Ol.o];obtain⟨k0,k1,k2,k3,-⟩:=s.cj;have k4:=j.c0;have k5:=j.c1;have k6:=j.c2;have k7:=j.c3;go_wp2_with fail;refine Oj.mono ?_;rintro e Z ⟨z,rfl,hz,O⟩;obtain⟨za,zn,zs,zv⟩:=z;have NN:=ah (f.below.trans (O.mono f.below.size));have Ot:wr.heap.size≤Z.heap.size:=NN.size;have NS:av Z (Z.alloc (.cells #[.int .i64 za,.int .i64 zn,.string zs,.int .i64 zv] 97)):=Dt.ay _ _ _;have C:ai (av wr (Z.alloc (.cells #[.int .i64 za,.int .i64 zn,.string zs,.int .i64 zv] 97))):=NN.trans (NS.mono Ot)
    have N_:((Z.alloc (.cells #[.int .i64 za,.int .i64 zn,.string zs,.int .i64 zv] 97))).heap.size=Z.heap.size+1:=by simp
    clear O NS k0 k1 k2 k3 k4 k5 k6 k7 f s j H J
    cases o9 with
    | none=>
     have g:ai (out++fu aV ic (kM ca cb) [] b1=NK):=g.o;go_wp2_with fail;obtain⟨w9,NT⟩:∃ W,W=(Z.alloc (.cells #[.int .i64 za,.int .i64 zn,.string zs,.int .i64 zv] 97)):=⟨_,rfl⟩;rw[← NT]at C ⊢;clear NT N_;go_roundw
     case rel=>exact⟨[],b1,out,A,B1,Ax,0,m1,q,c,(d-1),cx,rfl,rfl,rfl,by omega,by omega,rfl,Oy.below (C.mono r.below.size),NF,NY.1,NY.2.below (C.mono r.below.size),⟨(fq.1 N8.1).2,fun e he=>N8.2 e (gY _ he)⟩,g,N,aG Og C,r.low2 NM (C.mono r.below.size)⟩
     case measure=>simp[dS];omega
    | some z9=>
     obtain rfl:=hz z9 rfl;obtain⟨A6,c6,w6,r6,NP,O⟩:=nW ((Z.alloc (.cells #[.int .i64 za,.int .i64 zn,.string zs,.int .i64 zv] 97))) w.heap.size (Z.heap.size+1) N_ (aG Og C) N (aN r.below.size C.size) (⟨za,zn,zs,zv⟩:E) (by have:=Oi.o;omega);dsimp only at r6;have NQ:=ah r6;have Oh:=ah NP;have NU:=r.below.size;have N7:ai (Below w.heap.size wr w6):=(C.mono NU).trans O
     have g:ai ((out++[⟨za,zn,zs,zv⟩])++fu aV ic (kM ca cb) [] b1=NK):=by
      have M:=g.o;rw[← oh]at M;exact M
     have N:ai ((out++[(⟨za,zn,zs,zv⟩:E)]).length=q+1):=ah (by rw[bP,N.o];rfl)
     clear r6 NP O N_ NU;go_wp2_with (at_builtin;refine Lib.wpList_append_run _ rfl _ _ _ _ rfl _ _ rfl rfl _ _ NQ ?_);go_roundw
     case rel=>exact⟨[],b1,(out++[(⟨za,zn,zs,zv⟩:E)]),A,B1,A6,0,m1,(q+1),c,(d-1),c6,rfl,rfl,by go_num,by omega,by omega,rfl,Oy.below N7,NF,NY.1,NY.2.below N7,⟨(fq.1 N8.1).2,fun e he=>N8.2 e (gY _ he)⟩,g,N,Oh,r.low2 NM N7⟩
     case measure=>simp[dS];omega
   ·obtain rfl:n=0:=by omega
    obtain rfl:m=0:=by omega
    obtain rfl:a=[]:=jE.1 Ow.o;obtain rfl:b=[]:=jE.1 Ox.o;have ho:=g.o;rw[oJ,kR]at ho;subst ho;go_wp2_with fail;go_ret;exact⟨Ax,q,cx,rfl,N,Og,r.below⟩
end Cs
end Go.Proofs.YtgeafpaognhokaaGreat
