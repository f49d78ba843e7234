/- What is known: two rising lists of kids, side by side. -/
import Derived.Test.YtgeafpaognhokaaGreatG00
import Derived.Test.YtgeafpaognhokaaGreatCauStayK
import Derived.Test.YtgeafpaognhokaaGreatG01
namespace Go.Proofs.YtgeafpaognhokaaGreat
open ChangeShapes WideShapes ChangeAt RowKit
namespace Cs
open Tr Cx Sp Rw
theorem w_ (a b:ByteArray):0<gu a b↔cK b a:=by
 rcases aQ.tri a b with h | h | h
 ·have d:=(j5 a b).2 h
  exact⟨fun c=>by omega,fun c=>absurd c (aQ.asym h)⟩
 ·have d:=(AB a b).2 h
  subst h;exact⟨fun c=>by omega,fun c=>absurd c (aQ.irr _)⟩
 ·refine⟨fun _=>h,fun _=>?_⟩
  have d:¬gu a b<0:=fun c=>aQ.asym h ((j5 a b).1 c)
  have h3:¬gu a b=0:=fun c=>by rw[(AB a b).1 c]at h;exact aQ.irr _ h
  omega
def yG (w:World) (B:Nat) (A:Option Addr) (n c:Nat) (ks:List Kd):Prop:=∃ xs:List Value,Rd w B 3 A n c xs∧ks.length=n∧∀ (i:Nat) (h:i<ks.length),∃ se sk:SV,xs[i*3]?=some (.string (ks[i]).1)∧xs[i*3+1]?=some (.slice se.A se.n se.c)∧xs[i*3+2]?=some (.slice sk.A sk.n sk.c)∧aF w B (ks[i]).2 se sk
theorem yG.below {w b:World} {B n c:Nat} {A:Option Addr} {ks:List Kd} (h:yG w B A n c ks) (a:Below B w b):yG b B A n c ks:=by
 obtain⟨q,j,k,l⟩:=h;refine⟨q,j.below a,k,fun i hi=>?_⟩;obtain⟨m,p,d,e,f,g⟩:=l i hi;exact⟨m,p,d,e,f,aF.below g a⟩
theorem yG.head {w:World} {B n c:Nat} {A:Option Addr} {k:ByteArray} {t:T} {ks:List Kd} (h:yG w B A n c ((k,t)::ks)) (q:0<n):∃ b o,A=some ⟨b,o,none⟩∧b<B∧∃ se a:SV,w.cell? ⟨b,o,none⟩=some (.string k)∧w.cell? ⟨b,o+1,none⟩=some (.slice se.A se.n se.c)∧w.cell? ⟨b,o+2,none⟩=some (.slice a.A a.n a.c)∧aF w B t se a:=by
 obtain⟨xs,l,h2,m⟩:=h;obtain⟨b,o,e,p,d⟩:=l.at_ q;obtain⟨se,a,f,g,i,j⟩:=m 0 (by simp);refine⟨b,o,e,p,se,a,?_,?_,?_,j⟩
 ·have:=d _ _ f;simpa using this
 ·have:=d _ _ g;simpa using this
 ·have:=d _ _ i;simpa using this
theorem yG.tail {w:World} {B n c:Nat} {A:Option Addr} {k:Kd} {ks:List Kd} (h:yG w B A n c (k::ks)) (hn:0<n):yG w B (if c=1 then A else A.map (·.add (1*3))) (n-1) (c-1) ks:=by
 obtain⟨p,f,g,j⟩:=h;refine⟨p.drop (1*3),f.from_ (i:=1) (by omega),by simp at g;omega,fun i hi=>?_⟩;obtain⟨l,m,a,b,d,e⟩:=j (i+1) (by simp;omega);refine⟨l,m,?_,?_,?_,e⟩
 ·rw[List.getElem?_drop,show 1*3+i*3=(i+1)*3 by omega];exact a
 ·rw[List.getElem?_drop,show 1*3+(i*3+1)=(i+1)*3+1 by omega];exact b
 ·rw[List.getElem?_drop,show 1*3+(i*3+2)=(i+1)*3+2 by omega];exact d
theorem qg {w:World} {ok:Nat→Prop} {t:T} {se a:SV} (h:aX w ok t se a):t.es.length=se.n∧t.ks.length=a.n:=by
 obtain⟨es,ks⟩:=t;rw[kQ]at h;exact⟨h.1,h.2.2.1⟩
def vW (d:Nat) (ca cb:List S3):Prop:=∀ (ta tb:T) (Ae Ak Be Bk Ca Cb:Option Addr) (ne nk ce ck me mk de dk na ca9 nb cb9:Nat) (w:World),RT d ta→RT d tb→¬(ta=none_∧tb=none_)→nodes ta≤100000→nodes tb≤100000→ca.length=na→cb.length=nb→na≤100000→nb≤100000→Rd w w.heap.size 3 Ca na ca9 (aP ca)→Rd w w.heap.size 3 Cb nb cb9 (aP cb)→aH ca→aH cb→aF w w.heap.size ta ⟨Ae,ne,ce⟩ ⟨Ak,nk,ck⟩→aF w w.heap.size tb ⟨Be,me,de⟩ ⟨Bk,mk,dk⟩ →
  Calls Tryz.prog 124 #[.agg #[.slice Ae ne ce,.slice Ak nk ck,.slice Ca na ca9],.agg #[.slice Be me de,.slice Bk mk dk,.slice Cb nb cb9]] w (ul (bf d ca cb ta tb) w)
theorem BS (w:World):∃ (W:World) (p q:Nat),ai (W=(w.alloc (.cells #[.string ⟨#[]⟩,.slice none 0 0,.slice none 0 0] 134)).alloc (.cells #[.string ⟨#[]⟩,.slice none 0 0,.slice none 0 0] 134))∧ai (p=w.heap.size)∧ai (q=p+1)∧ai (Kept [(⟨p,0,none⟩,.string ⟨#[]⟩),(⟨p,1,none⟩,.slice none 0 0),(⟨p,2,none⟩,.slice none 0 0)] w W)∧ai (Kept [(⟨q,0,none⟩,.string ⟨#[]⟩),(⟨q,1,none⟩,.slice none 0 0),(⟨q,2,none⟩,.slice none 0 0)] w W)∧ai (aA p W)∧ai (aA q W)∧av w W:=by
 refine⟨_,_,_,rfl,rfl,rfl,?_,?_,⟨by simp;omega,fun j=>by go_simp⟩,⟨by simp,fun j=>by go_simp⟩,Dt.bC _ _ _ _ _⟩
 ·have a:=Kept.a_ (Dt.bC w #[.string ⟨#[]⟩,.slice none 0 0,.slice none 0 0] #[.string ⟨#[]⟩,.slice none 0 0,.slice none 0 0] 134 134)
  refine ((a.af ?_).af ?_).af ?_ <;> go_simp
 ·have a:=Kept.a_ (Dt.bC w #[.string ⟨#[]⟩,.slice none 0 0,.slice none 0 0] #[.string ⟨#[]⟩,.slice none 0 0,.slice none 0 0] 134 134)
  refine ((a.af ?_).af ?_).af ?_ <;> go_simp
set_option maxRecDepth 100000 in
set_option maxHeartbeats 4000000 in
theorem CG (dd:Nat) (ca cb:List S3) (P_:vW dd ca cb) (Ca Cb:Option Addr) (na N_ nb NA ba bb:Nat) (ks OD:List Kd) (A B:Option Addr) (n m c d:Nat) (w:World) (PI:ca.length=na) (PK:cb.length=nb) (OZ:na≤100000) (Pb:nb≤100000)
  (Pt:w.cell? ⟨ba,2,none⟩=some (.slice Ca na N_)) (Pv:w.cell? ⟨bb,2,none⟩=some (.slice Cb nb NA)) (PU:Rd w w.heap.size 3 Ca na N_ (aP ca)) (PV:Rd w w.heap.size 3 Cb nb NA (aP cb)) (P5:aH ca) (P6:aH cb)
  (PE:ks.length=n) (PG:OD.length=m) (hn:n≤100000) (hm:m≤100000) (PO:yG w w.heap.size A n c ks) (PS:yG w w.heap.size B m d OD) (Pk:Up dW cK ks) (Pm:Up dW cK OD) (P7:∀ k∈ks,au dd k.2∧nodes k.2≤100000∧¬k.2=none_∧1≤k.1.size) (P8:∀ k∈OD,au dd k.2∧nodes k.2≤100000∧¬k.2=none_∧1≤k.1.size) :
  Calls Tryz.prog 184 #[.slice A n c,.slice B m d,.func (.func 183) #[] #[],.func (.func 185) #[] #[.pointer (some ⟨ba,0,none⟩),.pointer (some ⟨bb,0,none⟩)]] w fun e w'=>∃ A' q c' kr,e = .returned (.slice A' q c')∧bK w' w.heap.size 134 A' q c' (fu dW cK (ng (bf dd ca cb)) ks OD) kr∧av w w':=by
 have OQ:=ah P_;have NV:=ah (And.intro PI (And.intro PU P5));have NW:=ah (And.intro PK (And.intro PV P6));have PZ:=ah (((Kept.nil w).af Pv).af Pt);have Ou:ai (ba<w.heap.size):=aL w _ Pt;have Ov:ai (bb<w.heap.size):=aL w _ Pv
 have NU:ai (∀ x∈([(⟨ba,2,none⟩,.slice Ca na N_),(⟨bb,2,none⟩,.slice Cb nb NA)]:List (Addr×Value)),x.1.block<w.heap.size):=by
  have r:=Ou.o;have h2:=Ov.o;intro x hx
  simp at hx
  rcases hx with rfl | rfl <;> assumption
 obtain⟨NS,OP⟩:∃ l,fu dW cK (ng (bf dd ca cb)) ks OD=l:=⟨_,rfl⟩;rw[OP];have Pz:=ah OP
 have OT:ai (NS.length≤n+m):=by
  unfold ai;rw[← OP]
  have r:=oK (α:=ByteArray×T) (key:=dW) (lt:=cK) (st:=ng (bf dd ca cb)) (fun _=>1) (fun x y z h=>by
   cases x with
   | some x=>simp
   | none=>
    cases y with
    | some y=>simp
    | none=>rw[(Ba (jP dd ca cb)).zero]at h;cases h) ks OD
  have e1:∀ l:List (ByteArray×T),(l.map fun _=>1).sum=l.length:=fun l=>by
   induction l with
   | nil=>rfl
   | cons k l ih=>simp only[List.map_cons,om,lY,ih];omega
  rw[e1,e1,e1]at r;omega
 have Pd:=ah (And.intro PE (And.intro PO (And.intro Pk P7)));have Pe:=ah (And.intro PG (And.intro PS (And.intro Pm P8)))
 have OU:ai (n+m≤200000):=FL
 obtain⟨i0,Ph,hz0,Pn,hz2⟩:=dO qV;clear P_ PI PK Pt Pv PU PV P5 P6 PO PS Pk Pm P7 P8 OP PE PG;go_enter Tryz.func184,Tryz.ntmps184;go_wp2_with fail
 go_loopw [0,1,9] (fun sa sb so wr=>∃ (a b out:List Kd) (kr:List (ByteArray×SV×SV)) (A B Ax:Option Addr) (n m q c d cx:Nat),sa = .slice A n c∧sb = .slice B m d∧so = .slice Ax q cx∧n≤100000∧m≤100000∧ai (a.length=n)∧ai (yG wr w.heap.size A n c a)∧ai (Up dW cK a∧∀ k∈a,au dd k.2∧nodes k.2≤100000∧¬k.2=none_∧1≤k.1.size)∧ai (b.length=m)∧ai (yG wr w.heap.size B m d b)∧ai (Up dW cK b∧∀ k∈b,au dd k.2∧nodes k.2≤100000∧¬k.2=none_∧1≤k.1.size)∧ai (out++fu dW cK (ng (bf dd ca cb)) a b=NS)∧ai (out.length=q)∧ai (bK wr w.heap.size 134 Ax q cx out kr)∧ai (Kept [(⟨ba,2,none⟩,.slice Ca na N_),(⟨bb,2,none⟩,.slice Cb nb NA)] w wr)) (fun sa sb _ _=>dS (some sa)+dS (some sb))
 case atStart=>exact⟨ks,OD,[],[],A,B,none,n,m,0,c,d,0,rfl,rfl,rfl,hn,hm,Pd.1,Pd.2.1,Pd.2.2,Pe.1,Pe.2.1,Pe.2.2,by have r:=Pz.o;exact r,rfl,bK.nil _ _ _,PZ⟩
 case round=>
  clear Pd Pe hn hm;obtain⟨a,b,out,kr,A,B,Ax,n,m,q,c,d,cx,rfl,rfl,rfl,hn,hm,O7,O9,Ny,O8,O_,N8,i,N7,NT,g⟩:=hrel
  by_cases hn0:0<n
  ·by_cases Qf:0<m
   ·obtain⟨x,a1,rfl⟩:∃ x l,a=x::l:=by
     cases a with
     | nil=>have r:=O7.o;simp at r;omega
     | cons x l=>exact⟨x,l,rfl⟩
    obtain⟨s,xt⟩:=x;obtain⟨J,Y,rfl,Pk,⟨⟨Xe,xn,xc⟩,⟨Xk,xm,xd⟩,x0,x1,x2,OB⟩⟩:=O9.head (by omega);dsimp only at x1 x2;have OI:=ah OB;have PW:J<wr.heap.size:=aL wr _ x0;obtain⟨n1,O3⟩:∃ z,z=n-1:=⟨_,rfl⟩
    obtain⟨A1,OE⟩:∃ z,z=(if c=1 then some (⟨J,Y,none⟩:Addr)else (some (⟨J,Y,none⟩:Addr)).map (·.add (1*3))):=⟨_,rfl⟩
    have Pw:∀ W,(Instr.slice 33 (.slice (some ⟨J,Y,none⟩) n c) (some (.int .i64 1)) none none).run Tryz.prog W = .ok (.slice A1 n1 (c-1)) W:=fun W=>by
     have r:=dV (P:=Tryz.prog) 33 134 3 Tryz.underlying33 Ph Pn (some ⟨J,Y,none⟩) n c 1 (by omega) W;rw[← OE,← O3]at r;exact r
    have Om:ai (a1.length=n1∧yG wr w.heap.size A1 n1 (c-1) a1):=by
     have h2:=O7.o;refine⟨by rw[O3];simp at h2;omega,?_⟩;rw[OE,O3];exact O9.tail (by omega)
    have Qd:((n:Int)==0)=false:=by rw[gP];omega
    have Qe:decide ((0:Int)<(n:Int))=true:=aJ (by omega)
    have PN:n1+1=n:=by omega
    clear O3 OE OB
    obtain⟨y,b1,rfl⟩:∃ x l,b=x::l:=by
     cases b with
     | nil=>have r:=O8.o;simp at r;omega
     | cons x l=>exact⟨x,l,rfl⟩
    obtain⟨v,yt⟩:=y;obtain⟨L,Z,rfl,Pm,⟨⟨Ye,yn,yc⟩,⟨Yk,ym,yd⟩,y0,y1,y2,OC⟩⟩:=O_.head (by omega);dsimp only at y1 y2;have OJ:=ah OC;have PX:L<wr.heap.size:=aL wr _ y0;obtain⟨m1,O1⟩:∃ z,z=m-1:=⟨_,rfl⟩
    obtain⟨B1,OG⟩:∃ z,z=(if d=1 then some (⟨L,Z,none⟩:Addr)else (some (⟨L,Z,none⟩:Addr)).map (·.add (1*3))):=⟨_,rfl⟩
    have Px:∀ W,(Instr.slice 33 (.slice (some ⟨L,Z,none⟩) m d) (some (.int .i64 1)) none none).run Tryz.prog W = .ok (.slice B1 m1 (d-1)) W:=fun W=>by
     have r:=dV (P:=Tryz.prog) 33 134 3 Tryz.underlying33 Ph Pn (some ⟨L,Z,none⟩) m d 1 (by omega) W;rw[← OG,← O1]at r;exact r
    have Oo:ai (b1.length=m1∧yG wr w.heap.size B1 m1 (d-1) b1):=by
     have h2:=O8.o;refine⟨by rw[O1];simp at h2;omega,?_⟩;rw[OG,O1];exact O_.tail (by omega)
    have Qb:((m:Int)==0)=false:=by rw[gP];omega
    have Qc:decide ((0:Int)<(m:Int))=true:=aJ (by omega)
    have PL:m1+1=m:=by omega
    clear O1 OG OC
    by_cases Py:cK s v
    ·have Nz:=Py
     have f:=ah ((((((((((Kept.nil wr).af g.c1).af g.c0).af y2).af y1).af y0).af x2).af x1).af x0).drew);obtain⟨c9,OA⟩:∃ z,gu s v=z:=⟨_,rfl⟩;have O6:=ah OA;have g1:decide (c9≤0)=true:=aJ (by have:=(j5 s v).2 Nz;omega);have g2:decide (0≤c9)=false:=aM (by have:=(j5 s v).2 Nz;omega);clear OA;go_wp2_with fail;refine Rg (S:=fun W=>W.cell? ⟨J,Y,none⟩=some (.string s)∧W.cell? ⟨J,Y+1,none⟩=some (.slice Xe xn xc)∧W.cell? ⟨J,Y+2,none⟩=some (.slice Xk xm xd)∧W.cell? ⟨L,Z,none⟩=some (.string v)∧W.cell? ⟨L,Z+1,none⟩=some (.slice Ye yn yc)∧W.cell? ⟨L,Z+2,none⟩=some (.slice Yk ym yd)) (by exact⟨f.c0,f.c1,f.c2,f.c3,f.c4,f.c5⟩) (fun hHeld=>?_)
     refine T4 0 24 1 25 2 26 3 27 ?_;refine T4 4 28 5 29 6 30 7 31 ?_;refine T4 8 32 9 33 10 34 11 35 ?_;refine T3 12 36 13 37 14 38 ?_;refine Tc 15 (fun K hK=>?_);go_simp;(go_at_call 183;refine (l_ s v Xe Xk xn xm xc xd Ye Yk yn ym yc yd _).mono ?_);rw[O6.o];rintro e v1 ⟨rfl,NR⟩;have f:=ah (f.later NR);clear NR;clear hHeld;refine Th hK ?_ (fun hHeld=>?_)
     ·exact⟨f.c0,f.c1,f.c2,f.c3,f.c4,f.c5⟩
     clear hK K;refine T4 16 40 17 41 18 42 19 10 ?_;refine Td ?_;clear hHeld;go_wp2_with fail;have f:=ah (f.drew);refine Rg (S:=fun W=>W.cell? ⟨J,Y,none⟩=some (.string s)∧W.cell? ⟨J,Y+1,none⟩=some (.slice Xe xn xc)∧W.cell? ⟨J,Y+2,none⟩=some (.slice Xk xm xd)∧W.cell? ⟨L,Z,none⟩=some (.string v)∧W.cell? ⟨L,Z+1,none⟩=some (.slice Ye yn yc)∧W.cell? ⟨L,Z+2,none⟩=some (.slice Yk ym yd)) (by exact⟨f.c0,f.c1,f.c2,f.c3,f.c4,f.c5⟩) (fun hHeld=>?_);refine T4 0 43 1 44 2 45 3 46 ?_;refine T4 4 47 5 48 6 49 7 50 ?_;refine T4 8 51 9 52 10 53 11 54 ?_;refine Tk 12 55 ?_
     refine T2 13 56 14 57 ?_;refine Tc 15 (fun K hK=>?_);go_simp;(go_at_call 183;refine (l_ s v Xe Xk xn xm xc xd Ye Yk yn ym yc yd _).mono ?_);rw[O6.o];rintro e v2 ⟨rfl,NR⟩;have f:=ah (f.later NR);clear NR;clear hHeld;refine Th hK ?_ (fun hHeld=>?_)
     ·exact⟨f.c0,f.c1,f.c2,f.c3,f.c4,f.c5⟩
     clear hK K;refine T4 16 59 17 60 18 61 19 11 ?_;refine Td ?_;clear hHeld;have O5:=f.below.size;obtain⟨W5,p,F,Oq,NJ,NF,u,j,N,O,Oh⟩:=BS (v2);have f:=ah (f.later Oh);have u:=ah (u.rebase f.below);have j:=ah (j.rebase f.below)
     have Ot:wr.heap.size≤p:=by have:=NJ.o;omega
     have NC:wr.heap.size≤F:=by have:=NF.o;omega
     have Pj:¬p=F:=by have:=NF.o;omega
     have OO:¬F=p:=by omega
     have Ol:=g.below.size
     have Pf:¬ba=p:=by have:=Ou.o;omega
     have OL:¬ba=F:=by have:=Ou.o;omega
     have Pg:¬bb=p:=by have:=Ov.o;omega
     have OM:¬bb=F:=by have:=Ov.o;omega
     have Po:¬J=p:=by omega
     have OV:¬J=F:=by omega
     have Pp:¬p=J:=by omega
     have OW:¬F=J:=by omega
     have Pq:¬L=p:=by omega
     have OX:¬L=F:=by omega
     have Ps:¬p=L:=by omega
     have OY:¬F=L:=by omega
     clear O5 Oh Ol;go_wp2_with fail;rw[← NJ.o,← NF.o,← Oq.o];obtain⟨s0,s1,s2,-⟩:=u.cj;have m0:=N.2 0;have m1:=N.2 1;have m2:=N.2 2;obtain⟨t0,t1,t2,-⟩:=f.cj;refine Rk (S:=fun W=>W.cell? ⟨J,Y,none⟩=some (.string s)∧W.cell? ⟨J,Y+1,none⟩=some (.slice Xe xn xc)∧W.cell? ⟨J,Y+2,none⟩=some (.slice Xk xm xd)) (fun hHeld=>?_);refine T4 0 63 1 64 2 65 3 66 ?_;refine Tk 4 67 ?_;refine Tc 5 (fun K hK=>?_);go_simp;refine Th hK ?_ (fun D=>?_)
     ·(try dsimp only);go_keep
     clear hK K hHeld;have hHeld:=D;clear D;refine Tk 6 0 ?_;refine Td ?_;clear hHeld s0 s1 s2 m0 m1 m2 t0 t1 t2;obtain⟨W6,G⟩:∃ W,W=((((W5.setCell ⟨p,0,none⟩ (.string s)).setCell ⟨p,1,none⟩ (.slice Xe xn xc)).setCell ⟨p,2,none⟩ (.slice Xk xm xd))).drew:=⟨_,rfl⟩
     have NN:ai (Kept [(⟨J,Y,none⟩,.string s),(⟨J,Y+1,none⟩,.slice Xe xn xc),(⟨J,Y+2,none⟩,.slice Xk xm xd),(⟨L,Z,none⟩,.string v),(⟨L,Z+1,none⟩,.slice Ye yn yc),(⟨L,Z+2,none⟩,.slice Yk ym yd),(⟨ba,2,none⟩,.slice Ca na N_),(⟨bb,2,none⟩,.slice Cb nb NA)] wr W6):=by
      unfold ai;rw[G];exact (f.past3 (p:=p) Ot (by simp[*]) _ _ _).drew
     have NP:ai (Kept [(⟨p,0,none⟩,.string s),(⟨p,1,none⟩,.slice Xe xn xc),(⟨p,2,none⟩,.slice Xk xm xd)] wr W6):=by
      unfold ai;rw[G];exact ((Kept.a_ f.below).gT (p:=p) Ot (by simp) ⟨_,u.c0⟩ ⟨_,u.c1⟩ ⟨_,u.c2⟩ _ _ _).drew
     have NQ:ai (Kept [(⟨F,0,none⟩,.string ⟨#[]⟩),(⟨F,1,none⟩,.slice none 0 0),(⟨F,2,none⟩,.slice none 0 0)] wr W6):=by
      unfold ai;rw[G];exact (j.past3 (p:=p) Ot (by simp[*]) _ _ _).drew
     have NK:ai (aA p W6):=ah (by rw[G];exact ((((N.set _ _).set _ _).set _ _)).drew)
     have NM:ai (aA F W6):=ah (by rw[G];exact ((((O.set _ _).set _ _).set _ _)).drew)
     have Oz:=ah G;clear G f u j N O;have f:=NN;have u:=NP;have j:=NQ;have N:=NK;have O:=NM;clear NN NP NQ NK NM;obtain⟨M,X⟩:∃ t,bf dd ca cb xt none_=t:=⟨_,rfl⟩;obtain⟨o9,N9⟩:∃ o,ng (bf dd ca cb) (some (s,xt)) (none)=o:=⟨_,rfl⟩
     have Ob:ai ((dG M→o9=none)∧(¬dG M→o9=some (s,M))):=by
      refine⟨fun h=>?_,fun h=>?_⟩
      ·rw[← N9]
       exact if_pos (show dG (bf dd ca cb xt none_) by rw[X];exact h)
      ·rw[← N9]
       refine (if_neg (show ¬dG (bf dd ca cb xt none_) by rw[X];exact h)).trans ?_;rw[← X];rfl
     have i:ai (out++(o9.toList++fu dW cK (ng (bf dd ca cb)) a1 ((v,yt)::b1))=NS):=by
      have r:=i.o;rw[EW (key:=dW) (lt:=cK) (st:=ng (bf dd ca cb)) (x:=(s,xt)) (y:=(v,yt)) Nz a1 b1,N9]at r;exact r
     have Ox:ai (q≤200000):=by
      have r:=congrArg List.length i.o;have h2:=OT.o;have h3:=OU.o;have h4:=N7.o;rw[bP]at r;unfold ai;omega
     have Oy:ai (Calls Tryz.prog 185 #[.agg #[.string s,.slice Xe xn xc,.slice Xk xm xd],.agg #[.string ⟨#[]⟩,.slice none 0 0,.slice none 0 0],.pointer (some ⟨ba,0,none⟩),.pointer (some ⟨bb,0,none⟩)] W6 (uj s M W6)):=by
      refine nZ s ⟨#[]⟩ Xe Xk none none xn xm xc xd 0 0 0 0 Ca Cb na N_ nb NA ba bb W6 f.c6 f.c7 M s (by have r:1≤s.size:=(Ny.2 _ fA).2.2.2;rw[if_neg (by omega)]) fun W hb=>?_;have r:av w W:=g.below.trans ((f.below.trans (hb.mono f.below.size)).mono g.below.size);have h2:Below w.heap.size wr W:=(f.below.trans (hb.mono f.below.size)).mono g.below.size;rw[← X];exact OQ.o xt none_ Xe Xk none none Ca Cb xn xm xc xd 0 0 0 0 na N_ nb NA W (.inl (Ny.2 _ fA).1) (.inr rfl) (fun h=>(Ny.2 _ fA).2.2.1 h.1) (Ny.2 _ fA).2.1 (by rw[show nodes none_=0 from by unfold none_;rw[bJ];rfl];omega) NV.1 NW.1 OZ Pb ((NV.2.1.below r).more r.size) ((NW.2.1.below r).more r.size) NV.2.2 NW.2.2 (aF.more r.size _ (aF.below OI h2)) (aF.none _ _ _ _)
     obtain⟨B9,Og⟩:∃ z,z=W6.heap.size:=⟨_,rfl⟩
     have NZ:ai (wr.heap.size≤B9):=ah (by rw[Og];exact f.below.size)
     clear N9 X;rw[← Oz.o];obtain⟨k0,k1,k2,-⟩:=u.cj;have k3:=j.c0;have k4:=j.c1;have k5:=j.c2;go_wp2_with fail;refine Oy.mono ?_;rintro e v6 ⟨Ze,U,zc,Zk,R,zd,rfl,NH,V⟩;have Oc:ai (aX v6 (fun b=>B9≤b) M ⟨Ze,U,zc⟩ ⟨Zk,R,zd⟩):=aX.mono (fun b hb _=>by omega) _ NH;have Q:M.es.length=U∧M.ks.length=R:=qg NH;have NY:=ah (f.below.trans (V.mono f.below.size));have O4:wr.heap.size≤v6.heap.size:=NY.size;have NG:av v6 (v6.alloc (.cells #[.string s,.slice Ze U zc,.slice Zk R zd] 134)):=Dt.ay _ _ _;have C:ai (av wr (v6.alloc (.cells #[.string s,.slice Ze U zc,.slice Zk R zd] 134))):=NY.trans (NG.mono O4)
     have NI:((v6.alloc (.cells #[.string s,.slice Ze U zc,.slice Zk R zd] 134))).heap.size=v6.heap.size+1:=by simp
     have Od:ai (aX (v6.alloc (.cells #[.string s,.slice Ze U zc,.slice Zk R zd] 134)) (fun b=>B9≤b) M ⟨Ze,U,zc⟩ ⟨Zk,R,zd⟩):=aX.later Oc NG;clear NH Og V NG k0 k1 k2 k3 k4 k5 f u j N O Oc
     by_cases H:dG M
     ·have O0:decide (U=0∧R=0)=true:=aJ ⟨by rw[← Q.1,H.1];rfl,by rw[← Q.2,H.2];rfl⟩
      obtain rfl:o9=none:=by exact Ob.1 H
      clear Q H;have i:ai (out++fu dW cK (ng (bf dd ca cb)) a1 ((v,yt)::b1)=NS):=i.o;go_wp2_with fail;obtain⟨w9,Oi⟩:∃ W,W=(v6.alloc (.cells #[.string s,.slice Ze U zc,.slice Zk R zd] 134)):=⟨_,rfl⟩;rw[← Oi]at C ⊢;clear Oi NI;go_roundw
      case rel=>exact⟨a1,_,out,kr,A1,some ⟨L,Z,none⟩,Ax,n1,m,q,(c-1),d,cx,rfl,rfl,rfl,by omega,by omega,Om.1,Om.2.below (C.mono g.below.size),⟨(fq.1 Ny.1).2,fun e he=>Ny.2 e (gY _ he)⟩,O8,O_.below (C.mono g.below.size),N8,i,N7,NT.later C,g.low2 NU (C.mono g.below.size)⟩
      case measure=>simp[dS];omega
     ·have O0:decide (U=0∧R=0)=false:=aM fun h=>H ⟨jE.1 (by rw[Q.1];exact h.1),jE.1 (by rw[Q.2];exact h.2)⟩
      obtain rfl:o9=some (s,M):=by exact Ob.2 H
      clear Q H;obtain⟨A6,c6,w6,r6,Oa,V,_⟩:=bK.vL (k:=(s,⟨Ze,U,zc⟩,⟨Zk,R,zd⟩)) Tryz.underlying33 qV rfl (by omega) (NT.later C) (v6.heap.size+1) NI (aN g.below.size C.size) (aX.mono (fun b hb _=>⟨by have r:=NZ.o;have h2:=g.below.size;have h3:B9≤b:=hb;omega,fun e=>by have r:=(NT.own.row.lt b e).2;have h2:=NZ.o;have h3:B9≤b:=hb;omega⟩) _ Od) (by have:=Ox.o;omega) #[.string s,.slice Ze U zc,.slice Zk R zd] rfl;have Oe:=ah r6;have Ow:=ah Oa;have Oj:=g.below.size;have NE:ai (Below w.heap.size wr w6):=(C.mono Oj).trans V
      have i:ai ((out++[(s,M)])++fu dW cK (ng (bf dd ca cb)) a1 ((v,yt)::b1)=NS):=by
       have r:=i.o;rw[← oh]at r;exact r
      have N7:ai ((out++[((s,M):Kd)]).length=q+1):=ah (by rw[bP,N7.o];rfl)
      clear r6 Oa V NI Oj;go_wp2_with (at_builtin;refine Lib.wpList_append_run _ rfl _ _ _ _ rfl _ _ rfl rfl _ _ Oe ?_);go_roundw
      case rel=>exact⟨a1,_,(out++[((s,M):Kd)]),_,A1,some ⟨L,Z,none⟩,A6,n1,m,(q+1),(c-1),d,c6,rfl,rfl,by go_num,by omega,by omega,Om.1,Om.2.below NE,⟨(fq.1 Ny.1).2,fun e he=>Ny.2 e (gY _ he)⟩,O8,O_.below NE,N8,i,N7,Ow,g.low2 NU NE⟩
      case measure=>simp[dS];omega
    ·by_cases P9:cK v s
     ·have Nz:=And.intro Py P9
      have f:=ah ((((((((((Kept.nil wr).af g.c1).af g.c0).af y2).af y1).af y0).af x2).af x1).af x0).drew);obtain⟨c9,OA⟩:∃ z,gu s v=z:=⟨_,rfl⟩;have O6:=ah OA;have g1:decide (c9≤0)=false:=aM (by have r:¬gu s v<0:=fun h=>Nz.1 ((j5 s v).1 h);have h2:=(w_ s v).2 Nz.2;omega);have g2:decide (0≤c9)=true:=aJ (by have r:¬gu s v<0:=fun h=>Nz.1 ((j5 s v).1 h);have h2:=(w_ s v).2 Nz.2;omega);clear OA;go_wp2_with fail;refine Rg (S:=fun W=>W.cell? ⟨J,Y,none⟩=some (.string s)∧W.cell? ⟨J,Y+1,none⟩=some (.slice Xe xn xc)∧W.cell? ⟨J,Y+2,none⟩=some (.slice Xk xm xd)∧W.cell? ⟨L,Z,none⟩=some (.string v)∧W.cell? ⟨L,Z+1,none⟩=some (.slice Ye yn yc)∧W.cell? ⟨L,Z+2,none⟩=some (.slice Yk ym yd)) (by exact⟨f.c0,f.c1,f.c2,f.c3,f.c4,f.c5⟩) (fun hHeld=>?_)
      refine T4 0 24 1 25 2 26 3 27 ?_;refine T4 4 28 5 29 6 30 7 31 ?_;refine T4 8 32 9 33 10 34 11 35 ?_;refine T3 12 36 13 37 14 38 ?_;refine Tc 15 (fun K hK=>?_);go_simp;(go_at_call 183;refine (l_ s v Xe Xk xn xm xc xd Ye Yk yn ym yc yd _).mono ?_);rw[O6.o];rintro e v1 ⟨rfl,NR⟩;have f:=ah (f.later NR);clear NR;clear hHeld;refine Th hK ?_ (fun hHeld=>?_)
      ·exact⟨f.c0,f.c1,f.c2,f.c3,f.c4,f.c5⟩
      clear hK K;refine T4 16 40 17 41 18 42 19 10 ?_;refine Td ?_;clear hHeld;go_wp2_with fail;have f:=ah (f.drew);refine Rg (S:=fun W=>W.cell? ⟨J,Y,none⟩=some (.string s)∧W.cell? ⟨J,Y+1,none⟩=some (.slice Xe xn xc)∧W.cell? ⟨J,Y+2,none⟩=some (.slice Xk xm xd)∧W.cell? ⟨L,Z,none⟩=some (.string v)∧W.cell? ⟨L,Z+1,none⟩=some (.slice Ye yn yc)∧W.cell? ⟨L,Z+2,none⟩=some (.slice Yk ym yd)) (by exact⟨f.c0,f.c1,f.c2,f.c3,f.c4,f.c5⟩) (fun hHeld=>?_);refine T4 0 43 1 44 2 45 3 46 ?_;refine T4 4 47 5 48 6 49 7 50 ?_;refine T4 8 51 9 52 10 53 11 54 ?_
      refine T3 12 55 13 56 14 57 ?_;refine Tc 15 (fun K hK=>?_);go_simp;(go_at_call 183;refine (l_ s v Xe Xk xn xm xc xd Ye Yk yn ym yc yd _).mono ?_);rw[O6.o];rintro e v2 ⟨rfl,NR⟩;have f:=ah (f.later NR);clear NR;clear hHeld;refine Th hK ?_ (fun hHeld=>?_)
      ·exact⟨f.c0,f.c1,f.c2,f.c3,f.c4,f.c5⟩
      clear hK K;refine T4 16 59 17 60 18 61 19 11 ?_;refine Td ?_;clear hHeld;have O5:=f.below.size;obtain⟨W5,p,F,Oq,NJ,NF,u,j,N,O,Oh⟩:=BS (v2);have f:=ah (f.later Oh);have u:=ah (u.rebase f.below);have j:=ah (j.rebase f.below)
      have Ot:wr.heap.size≤p:=by have:=NJ.o;omega
      have NC:wr.heap.size≤F:=by have:=NF.o;omega
      have Pj:¬p=F:=by have:=NF.o;omega
      have OO:¬F=p:=by omega
      have Ol:=g.below.size
      have Pf:¬ba=p:=by have:=Ou.o;omega
      have OL:¬ba=F:=by have:=Ou.o;omega
      have Pg:¬bb=p:=by have:=Ov.o;omega
      have OM:¬bb=F:=by have:=Ov.o;omega
      have Po:¬J=p:=by omega
      have OV:¬J=F:=by omega
      have Pp:¬p=J:=by omega
      have OW:¬F=J:=by omega
      have Pq:¬L=p:=by omega
      have OX:¬L=F:=by omega
      have Ps:¬p=L:=by omega
      have OY:¬F=L:=by omega
      clear O5 Oh Ol;go_wp2_with fail;rw[← NJ.o,← NF.o,← Oq.o];obtain⟨s0,s1,s2,-⟩:=j.cj;have m0:=O.2 0;have m1:=O.2 1;have m2:=O.2 2;have t0:=f.c3;have t1:=f.c4;have t2:=f.c5;refine Rk (S:=fun W=>W.cell? ⟨L,Z,none⟩=some (.string v)∧W.cell? ⟨L,Z+1,none⟩=some (.slice Ye yn yc)∧W.cell? ⟨L,Z+2,none⟩=some (.slice Yk ym yd)) (fun hHeld=>?_);refine T4 0 69 1 70 2 71 3 72 ?_;refine Tk 4 73 ?_;refine Tc 5 (fun K hK=>?_);go_simp;refine Th hK ?_ (fun D=>?_)
      ·(try dsimp only);go_keep
      clear hK K hHeld;have hHeld:=D;clear D;refine Tk 6 1 ?_;refine Td ?_;clear hHeld s0 s1 s2 m0 m1 m2 t0 t1 t2;obtain⟨W6,G⟩:∃ W,W=((((W5.setCell ⟨F,0,none⟩ (.string v)).setCell ⟨F,1,none⟩ (.slice Ye yn yc)).setCell ⟨F,2,none⟩ (.slice Yk ym yd))).drew:=⟨_,rfl⟩
      have NN:ai (Kept [(⟨J,Y,none⟩,.string s),(⟨J,Y+1,none⟩,.slice Xe xn xc),(⟨J,Y+2,none⟩,.slice Xk xm xd),(⟨L,Z,none⟩,.string v),(⟨L,Z+1,none⟩,.slice Ye yn yc),(⟨L,Z+2,none⟩,.slice Yk ym yd),(⟨ba,2,none⟩,.slice Ca na N_),(⟨bb,2,none⟩,.slice Cb nb NA)] wr W6):=by
       unfold ai;rw[G];exact (f.past3 (p:=F) NC (by simp[*]) _ _ _).drew
      have NP:ai (Kept [(⟨F,0,none⟩,.string v),(⟨F,1,none⟩,.slice Ye yn yc),(⟨F,2,none⟩,.slice Yk ym yd)] wr W6):=by
       unfold ai;rw[G];exact ((Kept.a_ f.below).gT (p:=F) NC (by simp) ⟨_,j.c0⟩ ⟨_,j.c1⟩ ⟨_,j.c2⟩ _ _ _).drew
      have NQ:ai (Kept [(⟨p,0,none⟩,.string ⟨#[]⟩),(⟨p,1,none⟩,.slice none 0 0),(⟨p,2,none⟩,.slice none 0 0)] wr W6):=by
       unfold ai;rw[G];exact (u.past3 (p:=F) NC (by simp[*]) _ _ _).drew
      have NK:ai (aA F W6):=ah (by rw[G];exact ((((O.set _ _).set _ _).set _ _)).drew)
      have NM:ai (aA p W6):=ah (by rw[G];exact ((((N.set _ _).set _ _).set _ _)).drew)
      have Oz:=ah G;clear G f j u O N;have f:=NN;have j:=NP;have u:=NQ;have O:=NK;have N:=NM;clear NN NP NQ NK NM;obtain⟨M,X⟩:∃ t,bf dd ca cb none_ yt=t:=⟨_,rfl⟩;obtain⟨o9,N9⟩:∃ o,ng (bf dd ca cb) (none) (some (v,yt))=o:=⟨_,rfl⟩
      have Ob:ai ((dG M→o9=none)∧(¬dG M→o9=some (v,M))):=by
       refine⟨fun h=>?_,fun h=>?_⟩
       ·rw[← N9]
        exact if_pos (show dG (bf dd ca cb none_ yt) by rw[X];exact h)
       ·rw[← N9]
        refine (if_neg (show ¬dG (bf dd ca cb none_ yt) by rw[X];exact h)).trans ?_;rw[← X];rfl
      have i:ai (out++(o9.toList++fu dW cK (ng (bf dd ca cb)) ((s,xt)::a1) b1)=NS):=by
       have r:=i.o;rw[EU (key:=dW) (lt:=cK) (st:=ng (bf dd ca cb)) (x:=(s,xt)) (y:=(v,yt)) Nz.1 Nz.2 a1 b1,N9]at r;exact r
      have Ox:ai (q≤200000):=by
       have r:=congrArg List.length i.o;have h2:=OT.o;have h3:=OU.o;have h4:=N7.o;rw[bP]at r;unfold ai;omega
      have Oy:ai (Calls Tryz.prog 185 #[.agg #[.string ⟨#[]⟩,.slice none 0 0,.slice none 0 0],.agg #[.string v,.slice Ye yn yc,.slice Yk ym yd],.pointer (some ⟨ba,0,none⟩),.pointer (some ⟨bb,0,none⟩)] W6 (uj v M W6)):=by
       refine nZ ⟨#[]⟩ v none none Ye Yk 0 0 0 0 yn ym yc yd Ca Cb na N_ nb NA ba bb W6 f.c6 f.c7 M v (if_pos rfl) fun W hb=>?_;have r:av w W:=g.below.trans ((f.below.trans (hb.mono f.below.size)).mono g.below.size);have h2:Below w.heap.size wr W:=(f.below.trans (hb.mono f.below.size)).mono g.below.size;rw[← X];exact OQ.o none_ yt none none Ye Yk Ca Cb 0 0 0 0 yn ym yc yd na N_ nb NA W (.inr rfl) (.inl (N8.2 _ fA).1) (fun h=>(N8.2 _ fA).2.2.1 h.2) (by rw[show nodes none_=0 from by unfold none_;rw[bJ];rfl];omega) (N8.2 _ fA).2.1 NV.1 NW.1 OZ Pb ((NV.2.1.below r).more r.size) ((NW.2.1.below r).more r.size) NV.2.2 NW.2.2 (aF.none _ _ _ _) (aF.more r.size _ (aF.below OJ h2))
      obtain⟨B9,Og⟩:∃ z,z=W6.heap.size:=⟨_,rfl⟩
      have NZ:ai (wr.heap.size≤B9):=ah (by rw[Og];exact f.below.size)
      clear N9 X;rw[← Oz.o];obtain⟨k0,k1,k2,-⟩:=u.cj;have k3:=j.c0;have k4:=j.c1;have k5:=j.c2;go_wp2_with fail;refine Oy.mono ?_;rintro e v6 ⟨Ze,U,zc,Zk,R,zd,rfl,NH,V⟩;have Oc:ai (aX v6 (fun b=>B9≤b) M ⟨Ze,U,zc⟩ ⟨Zk,R,zd⟩):=aX.mono (fun b hb _=>by omega) _ NH;have Q:M.es.length=U∧M.ks.length=R:=qg NH;have NY:=ah (f.below.trans (V.mono f.below.size));have O4:wr.heap.size≤v6.heap.size:=NY.size;have NG:av v6 (v6.alloc (.cells #[.string v,.slice Ze U zc,.slice Zk R zd] 134)):=Dt.ay _ _ _;have C:ai (av wr (v6.alloc (.cells #[.string v,.slice Ze U zc,.slice Zk R zd] 134))):=NY.trans (NG.mono O4)
      have NI:((v6.alloc (.cells #[.string v,.slice Ze U zc,.slice Zk R zd] 134))).heap.size=v6.heap.size+1:=by simp
      have Od:ai (aX (v6.alloc (.cells #[.string v,.slice Ze U zc,.slice Zk R zd] 134)) (fun b=>B9≤b) M ⟨Ze,U,zc⟩ ⟨Zk,R,zd⟩):=aX.later Oc NG;clear NH Og V NG k0 k1 k2 k3 k4 k5 f u j N O Oc
      by_cases H:dG M
      ·have O0:decide (U=0∧R=0)=true:=aJ ⟨by rw[← Q.1,H.1];rfl,by rw[← Q.2,H.2];rfl⟩
       obtain rfl:o9=none:=by exact Ob.1 H
       clear Q H;have i:ai (out++fu dW cK (ng (bf dd ca cb)) ((s,xt)::a1) b1=NS):=i.o;go_wp2_with fail;obtain⟨w9,Oi⟩:∃ W,W=(v6.alloc (.cells #[.string v,.slice Ze U zc,.slice Zk R zd] 134)):=⟨_,rfl⟩;rw[← Oi]at C ⊢;clear Oi NI;go_roundw
       case rel=>exact⟨_,b1,out,kr,some ⟨J,Y,none⟩,B1,Ax,n,m1,q,c,(d-1),cx,rfl,rfl,rfl,by omega,by omega,O7,O9.below (C.mono g.below.size),Ny,Oo.1,Oo.2.below (C.mono g.below.size),⟨(fq.1 N8.1).2,fun e he=>N8.2 e (gY _ he)⟩,i,N7,NT.later C,g.low2 NU (C.mono g.below.size)⟩
       case measure=>simp[dS];omega
      ·have O0:decide (U=0∧R=0)=false:=aM fun h=>H ⟨jE.1 (by rw[Q.1];exact h.1),jE.1 (by rw[Q.2];exact h.2)⟩
       obtain rfl:o9=some (v,M):=by exact Ob.2 H
       clear Q H;obtain⟨A6,c6,w6,r6,Oa,V,_⟩:=bK.vL (k:=(v,⟨Ze,U,zc⟩,⟨Zk,R,zd⟩)) Tryz.underlying33 qV rfl (by omega) (NT.later C) (v6.heap.size+1) NI (aN g.below.size C.size) (aX.mono (fun b hb _=>⟨by have r:=NZ.o;have h2:=g.below.size;have h3:B9≤b:=hb;omega,fun e=>by have r:=(NT.own.row.lt b e).2;have h2:=NZ.o;have h3:B9≤b:=hb;omega⟩) _ Od) (by have:=Ox.o;omega) #[.string v,.slice Ze U zc,.slice Zk R zd] rfl;have Oe:=ah r6;have Ow:=ah Oa;have Oj:=g.below.size;have NE:ai (Below w.heap.size wr w6):=(C.mono Oj).trans V
       have i:ai ((out++[(v,M)])++fu dW cK (ng (bf dd ca cb)) ((s,xt)::a1) b1=NS):=by
        have r:=i.o;rw[← oh]at r;exact r
       have N7:ai ((out++[((v,M):Kd)]).length=q+1):=ah (by rw[bP,N7.o];rfl)
       clear r6 Oa V NI Oj;go_wp2_with (at_builtin;refine Lib.wpList_append_run _ rfl _ _ _ _ rfl _ _ rfl rfl _ _ Oe ?_);go_roundw
       case rel=>exact⟨_,b1,(out++[((v,M):Kd)]),_,some ⟨J,Y,none⟩,B1,A6,n,m1,(q+1),c,(d-1),c6,rfl,rfl,by go_num,by omega,by omega,O7,O9.below NE,Ny,Oo.1,Oo.2.below NE,⟨(fq.1 N8.1).2,fun e he=>N8.2 e (gY _ he)⟩,i,N7,Ow,g.low2 NU NE⟩
       case measure=>simp[dS];omega
     ·have Nz:=And.intro Py P9
      have f:=ah ((((((((((Kept.nil wr).af g.c1).af g.c0).af y2).af y1).af y0).af x2).af x1).af x0).drew);obtain⟨c9,OA⟩:∃ z,gu s v=z:=⟨_,rfl⟩;have O6:=ah OA;have g1:decide (c9≤0)=true:=aJ (by have r:¬gu s v<0:=fun h=>Nz.1 ((j5 s v).1 h);have h2:¬0<gu s v:=fun h=>Nz.2 ((w_ s v).1 h);omega);have g2:decide (0≤c9)=true:=aJ (by have r:¬gu s v<0:=fun h=>Nz.1 ((j5 s v).1 h);have h2:¬0<gu s v:=fun h=>Nz.2 ((w_ s v).1 h);omega);clear OA;go_wp2_with fail;refine Rg (S:=fun W=>W.cell? ⟨J,Y,none⟩=some (.string s)∧W.cell? ⟨J,Y+1,none⟩=some (.slice Xe xn xc)∧W.cell? ⟨J,Y+2,none⟩=some (.slice Xk xm xd)∧W.cell? ⟨L,Z,none⟩=some (.string v)∧W.cell? ⟨L,Z+1,none⟩=some (.slice Ye yn yc)∧W.cell? ⟨L,Z+2,none⟩=some (.slice Yk ym yd)) (by exact⟨f.c0,f.c1,f.c2,f.c3,f.c4,f.c5⟩) (fun hHeld=>?_)
      refine T4 0 24 1 25 2 26 3 27 ?_;refine T4 4 28 5 29 6 30 7 31 ?_;refine T4 8 32 9 33 10 34 11 35 ?_;refine T3 12 36 13 37 14 38 ?_;refine Tc 15 (fun K hK=>?_);go_simp;(go_at_call 183;refine (l_ s v Xe Xk xn xm xc xd Ye Yk yn ym yc yd _).mono ?_);rw[O6.o];rintro e v1 ⟨rfl,NR⟩;have f:=ah (f.later NR);clear NR;clear hHeld;refine Th hK ?_ (fun hHeld=>?_)
      ·exact⟨f.c0,f.c1,f.c2,f.c3,f.c4,f.c5⟩
      clear hK K;refine T4 16 40 17 41 18 42 19 10 ?_;refine Td ?_;clear hHeld;go_wp2_with fail;have f:=ah (f.drew);refine Rg (S:=fun W=>W.cell? ⟨J,Y,none⟩=some (.string s)∧W.cell? ⟨J,Y+1,none⟩=some (.slice Xe xn xc)∧W.cell? ⟨J,Y+2,none⟩=some (.slice Xk xm xd)∧W.cell? ⟨L,Z,none⟩=some (.string v)∧W.cell? ⟨L,Z+1,none⟩=some (.slice Ye yn yc)∧W.cell? ⟨L,Z+2,none⟩=some (.slice Yk ym yd)) (by exact⟨f.c0,f.c1,f.c2,f.c3,f.c4,f.c5⟩) (fun hHeld=>?_);refine T4 0 43 1 44 2 45 3 46 ?_;refine T4 4 47 5 48 6 49 7 50 ?_;refine T4 8 51 9 52 10 53 11 54 ?_
      refine T3 12 55 13 56 14 57 ?_;refine Tc 15 (fun K hK=>?_);go_simp;(go_at_call 183;refine (l_ s v Xe Xk xn xm xc xd Ye Yk yn ym yc yd _).mono ?_);rw[O6.o];rintro e v2 ⟨rfl,NR⟩;have f:=ah (f.later NR);clear NR;clear hHeld;refine Th hK ?_ (fun hHeld=>?_)
      ·exact⟨f.c0,f.c1,f.c2,f.c3,f.c4,f.c5⟩
      clear hK K;refine T4 16 59 17 60 18 61 19 11 ?_;refine Td ?_;clear hHeld;have O5:=f.below.size;obtain⟨W5,p,F,Oq,NJ,NF,u,j,N,O,Oh⟩:=BS (v2);have f:=ah (f.later Oh);have u:=ah (u.rebase f.below);have j:=ah (j.rebase f.below)
      have Ot:wr.heap.size≤p:=by have:=NJ.o;omega
      have NC:wr.heap.size≤F:=by have:=NF.o;omega
      have Pj:¬p=F:=by have:=NF.o;omega
      have OO:¬F=p:=by omega
      have Ol:=g.below.size
      have Pf:¬ba=p:=by have:=Ou.o;omega
      have OL:¬ba=F:=by have:=Ou.o;omega
      have Pg:¬bb=p:=by have:=Ov.o;omega
      have OM:¬bb=F:=by have:=Ov.o;omega
      have Po:¬J=p:=by omega
      have OV:¬J=F:=by omega
      have Pp:¬p=J:=by omega
      have OW:¬F=J:=by omega
      have Pq:¬L=p:=by omega
      have OX:¬L=F:=by omega
      have Ps:¬p=L:=by omega
      have OY:¬F=L:=by omega
      clear O5 Oh Ol;go_wp2_with fail;rw[← NJ.o,← NF.o,← Oq.o];obtain⟨s0,s1,s2,-⟩:=u.cj;have m0:=N.2 0;have m1:=N.2 1;have m2:=N.2 2;obtain⟨t0,t1,t2,-⟩:=f.cj;refine Rk (S:=fun W=>W.cell? ⟨J,Y,none⟩=some (.string s)∧W.cell? ⟨J,Y+1,none⟩=some (.slice Xe xn xc)∧W.cell? ⟨J,Y+2,none⟩=some (.slice Xk xm xd)) (fun hHeld=>?_);refine T4 0 63 1 64 2 65 3 66 ?_;refine Tk 4 67 ?_;refine Tc 5 (fun K hK=>?_);go_simp;refine Th hK ?_ (fun D=>?_)
      ·(try dsimp only);go_keep
      clear hK K hHeld;have hHeld:=D;clear D;refine Tk 6 0 ?_;refine Td ?_;clear hHeld s0 s1 s2 m0 m1 m2 t0 t1 t2;obtain⟨W6,G⟩:∃ W,W=((((W5.setCell ⟨p,0,none⟩ (.string s)).setCell ⟨p,1,none⟩ (.slice Xe xn xc)).setCell ⟨p,2,none⟩ (.slice Xk xm xd))).drew:=⟨_,rfl⟩
      have NN:ai (Kept [(⟨J,Y,none⟩,.string s),(⟨J,Y+1,none⟩,.slice Xe xn xc),(⟨J,Y+2,none⟩,.slice Xk xm xd),(⟨L,Z,none⟩,.string v),(⟨L,Z+1,none⟩,.slice Ye yn yc),(⟨L,Z+2,none⟩,.slice Yk ym yd),(⟨ba,2,none⟩,.slice Ca na N_),(⟨bb,2,none⟩,.slice Cb nb NA)] wr W6):=by
       unfold ai;rw[G];exact (f.past3 (p:=p) Ot (by simp[*]) _ _ _).drew
      have NP:ai (Kept [(⟨p,0,none⟩,.string s),(⟨p,1,none⟩,.slice Xe xn xc),(⟨p,2,none⟩,.slice Xk xm xd)] wr W6):=by
       unfold ai;rw[G];exact ((Kept.a_ f.below).gT (p:=p) Ot (by simp) ⟨_,u.c0⟩ ⟨_,u.c1⟩ ⟨_,u.c2⟩ _ _ _).drew
      have NQ:ai (Kept [(⟨F,0,none⟩,.string ⟨#[]⟩),(⟨F,1,none⟩,.slice none 0 0),(⟨F,2,none⟩,.slice none 0 0)] wr W6):=by
       unfold ai;rw[G];exact (j.past3 (p:=p) Ot (by simp[*]) _ _ _).drew
      have NK:ai (aA p W6):=ah (by rw[G];exact ((((N.set _ _).set _ _).set _ _)).drew)
      have NM:ai (aA F W6):=ah (by rw[G];exact ((((O.set _ _).set _ _).set _ _)).drew)
      have Oz:=ah G;clear G f u j N O;have f:=NN;have u:=NP;have j:=NQ;have N:=NK;have O:=NM;clear NN NP NQ NK NM;rw[← Oz.o];go_wp2_with fail;obtain⟨s0,s1,s2,-⟩:=j.cj;have m0:=O.2 0;have m1:=O.2 1;have m2:=O.2 2;have t0:=f.c3;have t1:=f.c4;have t2:=f.c5;refine Rk (S:=fun W=>W.cell? ⟨L,Z,none⟩=some (.string v)∧W.cell? ⟨L,Z+1,none⟩=some (.slice Ye yn yc)∧W.cell? ⟨L,Z+2,none⟩=some (.slice Yk ym yd)) (fun hHeld=>?_);refine T4 0 69 1 70 2 71 3 72 ?_;refine Tk 4 73 ?_;refine Tc 5 (fun K hK=>?_);go_simp;refine Th hK ?_ (fun D=>?_)
      ·(try dsimp only);go_keep
      clear hK K hHeld;have hHeld:=D;clear D;refine Tk 6 1 ?_;refine Td ?_;clear hHeld s0 s1 s2 m0 m1 m2 t0 t1 t2;obtain⟨W7,OH⟩:∃ W,W=((((W6.setCell ⟨F,0,none⟩ (.string v)).setCell ⟨F,1,none⟩ (.slice Ye yn yc)).setCell ⟨F,2,none⟩ (.slice Yk ym yd))).drew:=⟨_,rfl⟩
      have NN:ai (Kept [(⟨J,Y,none⟩,.string s),(⟨J,Y+1,none⟩,.slice Xe xn xc),(⟨J,Y+2,none⟩,.slice Xk xm xd),(⟨L,Z,none⟩,.string v),(⟨L,Z+1,none⟩,.slice Ye yn yc),(⟨L,Z+2,none⟩,.slice Yk ym yd),(⟨ba,2,none⟩,.slice Ca na N_),(⟨bb,2,none⟩,.slice Cb nb NA)] wr W7):=by
       unfold ai;rw[OH];exact (f.past3 (p:=F) NC (by simp[*]) _ _ _).drew
      have NP:ai (Kept [(⟨F,0,none⟩,.string v),(⟨F,1,none⟩,.slice Ye yn yc),(⟨F,2,none⟩,.slice Yk ym yd)] wr W7):=by
       unfold ai;rw[OH];exact ((Kept.a_ f.below).gT (p:=F) NC (by simp) ⟨_,j.c0⟩ ⟨_,j.c1⟩ ⟨_,j.c2⟩ _ _ _).drew
      have NQ:ai (Kept [(⟨p,0,none⟩,.string s),(⟨p,1,none⟩,.slice Xe xn xc),(⟨p,2,none⟩,.slice Xk xm xd)] wr W7):=by
       unfold ai;rw[OH];exact (u.past3 (p:=F) NC (by simp[*]) _ _ _).drew
      have NK:ai (aA F W7):=ah (by rw[OH];exact ((((O.set _ _).set _ _).set _ _)).drew)
      have NM:ai (aA p W7):=ah (by rw[OH];exact ((((N.set _ _).set _ _).set _ _)).drew)
      have Qa:=ah OH;clear OH f j u O N;have f:=NN;have j:=NP;have u:=NQ;have O:=NK;have N:=NM;clear NN NP NQ NK NM;obtain⟨M,X⟩:∃ t,bf dd ca cb xt yt=t:=⟨_,rfl⟩;obtain⟨o9,N9⟩:∃ o,ng (bf dd ca cb) (some (s,xt)) (some (v,yt))=o:=⟨_,rfl⟩
      have Ob:ai ((dG M→o9=none)∧(¬dG M→o9=some (s,M))):=by
       refine⟨fun h=>?_,fun h=>?_⟩
       ·rw[← N9]
        exact if_pos (show dG (bf dd ca cb xt yt) by rw[X];exact h)
       ·rw[← N9]
        refine (if_neg (show ¬dG (bf dd ca cb xt yt) by rw[X];exact h)).trans ?_;rw[← X];rfl
      have i:ai (out++(o9.toList++fu dW cK (ng (bf dd ca cb)) a1 b1)=NS):=by
       have r:=i.o;rw[ET (key:=dW) (lt:=cK) (st:=ng (bf dd ca cb)) (x:=(s,xt)) (y:=(v,yt)) Nz.1 Nz.2 a1 b1,N9]at r;exact r
      have Ox:ai (q≤200000):=by
       have r:=congrArg List.length i.o;have h2:=OT.o;have h3:=OU.o;have h4:=N7.o;rw[bP]at r;unfold ai;omega
      have Oy:ai (Calls Tryz.prog 185 #[.agg #[.string s,.slice Xe xn xc,.slice Xk xm xd],.agg #[.string v,.slice Ye yn yc,.slice Yk ym yd],.pointer (some ⟨ba,0,none⟩),.pointer (some ⟨bb,0,none⟩)] W7 (uj s M W7)):=by
       refine nZ s v Xe Xk Ye Yk xn xm xc xd yn ym yc yd Ca Cb na N_ nb NA ba bb W7 f.c6 f.c7 M s (by have r:1≤s.size:=(Ny.2 _ fA).2.2.2;rw[if_neg (by omega)]) fun W hb=>?_;have r:av w W:=g.below.trans ((f.below.trans (hb.mono f.below.size)).mono g.below.size);have h2:Below w.heap.size wr W:=(f.below.trans (hb.mono f.below.size)).mono g.below.size;rw[← X];exact OQ.o xt yt Xe Xk Ye Yk Ca Cb xn xm xc xd yn ym yc yd na N_ nb NA W (.inl (Ny.2 _ fA).1) (.inl (N8.2 _ fA).1) (fun h=>(Ny.2 _ fA).2.2.1 h.1) (Ny.2 _ fA).2.1 (N8.2 _ fA).2.1 NV.1 NW.1 OZ Pb ((NV.2.1.below r).more r.size) ((NW.2.1.below r).more r.size) NV.2.2 NW.2.2 (aF.more r.size _ (aF.below OI h2)) (aF.more r.size _ (aF.below OJ h2))
      obtain⟨B9,Og⟩:∃ z,z=W7.heap.size:=⟨_,rfl⟩
      have NZ:ai (wr.heap.size≤B9):=ah (by rw[Og];exact f.below.size)
      clear N9 X;rw[← Qa.o];obtain⟨k0,k1,k2,-⟩:=u.cj;have k3:=j.c0;have k4:=j.c1;have k5:=j.c2;go_wp2_with fail;refine Oy.mono ?_;rintro e v6 ⟨Ze,U,zc,Zk,R,zd,rfl,NH,V⟩;have Oc:ai (aX v6 (fun b=>B9≤b) M ⟨Ze,U,zc⟩ ⟨Zk,R,zd⟩):=aX.mono (fun b hb _=>by omega) _ NH;have Q:M.es.length=U∧M.ks.length=R:=qg NH;have NY:=ah (f.below.trans (V.mono f.below.size));have O4:wr.heap.size≤v6.heap.size:=NY.size;have NG:av v6 (v6.alloc (.cells #[.string s,.slice Ze U zc,.slice Zk R zd] 134)):=Dt.ay _ _ _;have C:ai (av wr (v6.alloc (.cells #[.string s,.slice Ze U zc,.slice Zk R zd] 134))):=NY.trans (NG.mono O4)
      have NI:((v6.alloc (.cells #[.string s,.slice Ze U zc,.slice Zk R zd] 134))).heap.size=v6.heap.size+1:=by simp
      have Od:ai (aX (v6.alloc (.cells #[.string s,.slice Ze U zc,.slice Zk R zd] 134)) (fun b=>B9≤b) M ⟨Ze,U,zc⟩ ⟨Zk,R,zd⟩):=aX.later Oc NG;clear NH Og V NG k0 k1 k2 k3 k4 k5 f u j N O Oc
      by_cases H:dG M
      ·have O0:decide (U=0∧R=0)=true:=aJ ⟨by rw[← Q.1,H.1];rfl,by rw[← Q.2,H.2];rfl⟩
       obtain rfl:o9=none:=by exact Ob.1 H
       clear Q H;have i:ai (out++fu dW cK (ng (bf dd ca cb)) a1 b1=NS):=i.o;go_wp2_with fail;obtain⟨w9,Oi⟩:∃ W,W=(v6.alloc (.cells #[.string s,.slice Ze U zc,.slice Zk R zd] 134)):=⟨_,rfl⟩;rw[← Oi]at C ⊢;clear Oi NI;go_roundw
       case rel=>exact⟨a1,b1,out,kr,A1,B1,Ax,n1,m1,q,(c-1),(d-1),cx,rfl,rfl,rfl,by omega,by omega,Om.1,Om.2.below (C.mono g.below.size),⟨(fq.1 Ny.1).2,fun e he=>Ny.2 e (gY _ he)⟩,Oo.1,Oo.2.below (C.mono g.below.size),⟨(fq.1 N8.1).2,fun e he=>N8.2 e (gY _ he)⟩,i,N7,NT.later C,g.low2 NU (C.mono g.below.size)⟩
       case measure=>simp[dS];omega
      ·have O0:decide (U=0∧R=0)=false:=aM fun h=>H ⟨jE.1 (by rw[Q.1];exact h.1),jE.1 (by rw[Q.2];exact h.2)⟩
       obtain rfl:o9=some (s,M):=by exact Ob.2 H
       clear Q H;obtain⟨A6,c6,w6,r6,Oa,V,_⟩:=bK.vL (k:=(s,⟨Ze,U,zc⟩,⟨Zk,R,zd⟩)) Tryz.underlying33 qV rfl (by omega) (NT.later C) (v6.heap.size+1) NI (aN g.below.size C.size) (aX.mono (fun b hb _=>⟨by have r:=NZ.o;have h2:=g.below.size;have h3:B9≤b:=hb;omega,fun e=>by have r:=(NT.own.row.lt b e).2;have h2:=NZ.o;have h3:B9≤b:=hb;omega⟩) _ Od) (by have:=Ox.o;omega) #[.string s,.slice Ze U zc,.slice Zk R zd] rfl;have Oe:=ah r6;have Ow:=ah Oa;have Oj:=g.below.size;have NE:ai (Below w.heap.size wr w6):=(C.mono Oj).trans V
       have i:ai ((out++[(s,M)])++fu dW cK (ng (bf dd ca cb)) a1 b1=NS):=by
        have r:=i.o;rw[← oh]at r;exact r
       have N7:ai ((out++[((s,M):Kd)]).length=q+1):=ah (by rw[bP,N7.o];rfl)
       clear r6 Oa V NI Oj;go_wp2_with (at_builtin;refine Lib.wpList_append_run _ rfl _ _ _ _ rfl _ _ rfl rfl _ _ Oe ?_);go_roundw
       case rel=>exact⟨a1,b1,(out++[((s,M):Kd)]),_,A1,B1,A6,n1,m1,(q+1),(c-1),(d-1),c6,rfl,rfl,by go_num,by omega,by omega,Om.1,Om.2.below NE,⟨(fq.1 Ny.1).2,fun e he=>Ny.2 e (gY _ he)⟩,Oo.1,Oo.2.below NE,⟨(fq.1 N8.1).2,fun e he=>N8.2 e (gY _ he)⟩,i,N7,Ow,g.low2 NU NE⟩
       case measure=>simp[dS];omega
   ·obtain rfl:m=0:=by omega
    obtain rfl:b=[]:=jE.1 O8
    obtain⟨x,a1,rfl⟩:∃ x l,a=x::l:=by
     cases a with
     | nil=>have r:=O7.o;simp at r;omega
     | cons x l=>exact⟨x,l,rfl⟩
    obtain⟨s,xt⟩:=x;obtain⟨J,Y,rfl,Pk,⟨⟨Xe,xn,xc⟩,⟨Xk,xm,xd⟩,x0,x1,x2,OB⟩⟩:=O9.head (by omega);dsimp only at x1 x2;have OI:=ah OB;have PW:J<wr.heap.size:=aL wr _ x0;obtain⟨n1,O3⟩:∃ z,z=n-1:=⟨_,rfl⟩
    obtain⟨A1,OE⟩:∃ z,z=(if c=1 then some (⟨J,Y,none⟩:Addr)else (some (⟨J,Y,none⟩:Addr)).map (·.add (1*3))):=⟨_,rfl⟩
    have Pw:∀ W,(Instr.slice 33 (.slice (some ⟨J,Y,none⟩) n c) (some (.int .i64 1)) none none).run Tryz.prog W = .ok (.slice A1 n1 (c-1)) W:=fun W=>by
     have r:=dV (P:=Tryz.prog) 33 134 3 Tryz.underlying33 Ph Pn (some ⟨J,Y,none⟩) n c 1 (by omega) W;rw[← OE,← O3]at r;exact r
    have Om:ai (a1.length=n1∧yG wr w.heap.size A1 n1 (c-1) a1):=by
     have h2:=O7.o;refine⟨by rw[O3];simp at h2;omega,?_⟩;rw[OE,O3];exact O9.tail (by omega)
    have Qd:((n:Int)==0)=false:=by rw[gP];omega
    have Qe:decide ((0:Int)<(n:Int))=true:=aJ (by omega)
    have PN:n1+1=n:=by omega
    clear O3 OE OB;have f:=ah (((((((Kept.nil wr).af g.c1).af g.c0).af x2).af x1).af x0).drew);go_wp2_with fail;refine Rg (S:=fun W=>W.cell? ⟨J,Y,none⟩=some (.string s)∧W.cell? ⟨J,Y+1,none⟩=some (.slice Xe xn xc)∧W.cell? ⟨J,Y+2,none⟩=some (.slice Xk xm xd)) (by exact⟨f.c0,f.c1,f.c2⟩) (fun hHeld=>?_);refine T4 0 24 1 25 2 26 3 27 ?_;refine U4 4 28 5 29 6 30 7 31 ?_;refine U4 8 32 9 33 10 34 11 35 ?_;refine U4 12 36 13 37 14 38 15 39 ?_;refine U2 16 40 17 41 ?_;refine T2 18 42 19 10 ?_;refine Td ?_;clear hHeld;go_wp2_with fail
    have f:=ah (f.drew);refine Rg (S:=fun W=>W.cell? ⟨J,Y,none⟩=some (.string s)∧W.cell? ⟨J,Y+1,none⟩=some (.slice Xe xn xc)∧W.cell? ⟨J,Y+2,none⟩=some (.slice Xk xm xd)) (by exact⟨f.c0,f.c1,f.c2⟩) (fun hHeld=>?_);refine T4 0 43 1 44 2 45 3 46 ?_;refine T4 4 47 5 48 6 49 7 50 ?_;refine U4 8 51 9 52 10 53 11 54 ?_;refine U4 12 55 13 56 14 57 15 58 ?_;refine Tn 16 59 ?_;refine T3 17 60 18 61 19 11 ?_;refine Td ?_;clear hHeld;have O5:=f.below.size;obtain⟨W5,p,F,Oq,NJ,NF,u,j,N,O,Oh⟩:=BS (wr.drew.drew);have f:=ah (f.later Oh)
    have u:=ah (u.rebase f.below);have j:=ah (j.rebase f.below);have Oq:ai (W5=((wr.alloc (.cells #[.string ⟨#[]⟩,.slice none 0 0,.slice none 0 0] 134)).alloc (.cells #[.string ⟨#[]⟩,.slice none 0 0,.slice none 0 0] 134)).drew.drew):=Oq.o;have NJ:ai (p=wr.heap.size):=NJ.o
    have Ot:wr.heap.size≤p:=by have:=NJ.o;omega
    have NC:wr.heap.size≤F:=by have:=NF.o;omega
    have Pj:¬p=F:=by have:=NF.o;omega
    have OO:¬F=p:=by omega
    have Ol:=g.below.size
    have Pf:¬ba=p:=by have:=Ou.o;omega
    have OL:¬ba=F:=by have:=Ou.o;omega
    have Pg:¬bb=p:=by have:=Ov.o;omega
    have OM:¬bb=F:=by have:=Ov.o;omega
    have Po:¬J=p:=by omega
    have OV:¬J=F:=by omega
    have Pp:¬p=J:=by omega
    have OW:¬F=J:=by omega
    clear O5 Oh Ol;go_wp2_with fail;rw[← NJ.o,← NF.o,← Oq.o];obtain⟨s0,s1,s2,-⟩:=u.cj;have m0:=N.2 0;have m1:=N.2 1;have m2:=N.2 2;obtain⟨t0,t1,t2,-⟩:=f.cj;refine Rk (S:=fun W=>W.cell? ⟨J,Y,none⟩=some (.string s)∧W.cell? ⟨J,Y+1,none⟩=some (.slice Xe xn xc)∧W.cell? ⟨J,Y+2,none⟩=some (.slice Xk xm xd)) (fun hHeld=>?_);refine T4 0 63 1 64 2 65 3 66 ?_;refine Tk 4 67 ?_;refine Tc 5 (fun K hK=>?_);go_simp;refine Th hK ?_ (fun D=>?_)
    ·(try dsimp only);go_keep
    clear hK K hHeld;have hHeld:=D;clear D;refine Tk 6 0 ?_;refine Td ?_;clear hHeld s0 s1 s2 m0 m1 m2 t0 t1 t2;obtain⟨W6,G⟩:∃ W,W=((((W5.setCell ⟨p,0,none⟩ (.string s)).setCell ⟨p,1,none⟩ (.slice Xe xn xc)).setCell ⟨p,2,none⟩ (.slice Xk xm xd))).drew:=⟨_,rfl⟩
    have NN:ai (Kept [(⟨J,Y,none⟩,.string s),(⟨J,Y+1,none⟩,.slice Xe xn xc),(⟨J,Y+2,none⟩,.slice Xk xm xd),(⟨ba,2,none⟩,.slice Ca na N_),(⟨bb,2,none⟩,.slice Cb nb NA)] wr W6):=by
     unfold ai;rw[G];exact (f.past3 (p:=p) Ot (by simp[*]) _ _ _).drew
    have NP:ai (Kept [(⟨p,0,none⟩,.string s),(⟨p,1,none⟩,.slice Xe xn xc),(⟨p,2,none⟩,.slice Xk xm xd)] wr W6):=by
     unfold ai;rw[G];exact ((Kept.a_ f.below).gT (p:=p) Ot (by simp) ⟨_,u.c0⟩ ⟨_,u.c1⟩ ⟨_,u.c2⟩ _ _ _).drew
    have NQ:ai (Kept [(⟨F,0,none⟩,.string ⟨#[]⟩),(⟨F,1,none⟩,.slice none 0 0),(⟨F,2,none⟩,.slice none 0 0)] wr W6):=by
     unfold ai;rw[G];exact (j.past3 (p:=p) Ot (by simp[*]) _ _ _).drew
    have NK:ai (aA p W6):=ah (by rw[G];exact ((((N.set _ _).set _ _).set _ _)).drew)
    have NM:ai (aA F W6):=ah (by rw[G];exact ((((O.set _ _).set _ _).set _ _)).drew)
    have Oz:=ah G;clear G f u j N O;have f:=NN;have u:=NP;have j:=NQ;have N:=NK;have O:=NM;clear NN NP NQ NK NM;obtain⟨M,X⟩:∃ t,bf dd ca cb xt none_=t:=⟨_,rfl⟩;obtain⟨o9,N9⟩:∃ o,ng (bf dd ca cb) (some (s,xt)) (none)=o:=⟨_,rfl⟩
    have Ob:ai ((dG M→o9=none)∧(¬dG M→o9=some (s,M))):=by
     refine⟨fun h=>?_,fun h=>?_⟩
     ·rw[← N9]
      exact if_pos (show dG (bf dd ca cb xt none_) by rw[X];exact h)
     ·rw[← N9]
      refine (if_neg (show ¬dG (bf dd ca cb xt none_) by rw[X];exact h)).trans ?_;rw[← X];rfl
    have i:ai (out++(o9.toList++fu dW cK (ng (bf dd ca cb)) a1 [])=NS):=by
     have r:=i.o;rw[xE (key:=dW) (lt:=cK) (st:=ng (bf dd ca cb)) ((s,xt):Kd) a1,N9]at r;exact r
    have Ox:ai (q≤200000):=by
     have r:=congrArg List.length i.o;have h2:=OT.o;have h3:=OU.o;have h4:=N7.o;rw[bP]at r;unfold ai;omega
    have Oy:ai (Calls Tryz.prog 185 #[.agg #[.string s,.slice Xe xn xc,.slice Xk xm xd],.agg #[.string ⟨#[]⟩,.slice none 0 0,.slice none 0 0],.pointer (some ⟨ba,0,none⟩),.pointer (some ⟨bb,0,none⟩)] W6 (uj s M W6)):=by
     refine nZ s ⟨#[]⟩ Xe Xk none none xn xm xc xd 0 0 0 0 Ca Cb na N_ nb NA ba bb W6 f.c3 f.c4 M s (by have r:1≤s.size:=(Ny.2 _ fA).2.2.2;rw[if_neg (by omega)]) fun W hb=>?_;have r:av w W:=g.below.trans ((f.below.trans (hb.mono f.below.size)).mono g.below.size);have h2:Below w.heap.size wr W:=(f.below.trans (hb.mono f.below.size)).mono g.below.size;rw[← X];exact OQ.o xt none_ Xe Xk none none Ca Cb xn xm xc xd 0 0 0 0 na N_ nb NA W (.inl (Ny.2 _ fA).1) (.inr rfl) (fun h=>(Ny.2 _ fA).2.2.1 h.1) (Ny.2 _ fA).2.1 (by rw[show nodes none_=0 from by unfold none_;rw[bJ];rfl];omega) NV.1 NW.1 OZ Pb ((NV.2.1.below r).more r.size) ((NW.2.1.below r).more r.size) NV.2.2 NW.2.2 (aF.more r.size _ (aF.below OI h2)) (aF.none _ _ _ _)
    obtain⟨B9,Og⟩:∃ z,z=W6.heap.size:=⟨_,rfl⟩
    have NZ:ai (wr.heap.size≤B9):=ah (by rw[Og];exact f.below.size)
    clear N9 X;rw[← Oz.o];obtain⟨k0,k1,k2,-⟩:=u.cj;have k3:=j.c0;have k4:=j.c1;have k5:=j.c2;go_wp2_with fail;refine Oy.mono ?_;rintro e v6 ⟨Ze,U,zc,Zk,R,zd,rfl,NH,V⟩;have Oc:ai (aX v6 (fun b=>B9≤b) M ⟨Ze,U,zc⟩ ⟨Zk,R,zd⟩):=aX.mono (fun b hb _=>by omega) _ NH;have Q:M.es.length=U∧M.ks.length=R:=qg NH;have NY:=ah (f.below.trans (V.mono f.below.size));have O4:wr.heap.size≤v6.heap.size:=NY.size;have NG:av v6 (v6.alloc (.cells #[.string s,.slice Ze U zc,.slice Zk R zd] 134)):=Dt.ay _ _ _;have C:ai (av wr (v6.alloc (.cells #[.string s,.slice Ze U zc,.slice Zk R zd] 134))):=NY.trans (NG.mono O4)
    have NI:((v6.alloc (.cells #[.string s,.slice Ze U zc,.slice Zk R zd] 134))).heap.size=v6.heap.size+1:=by simp
    have Od:ai (aX (v6.alloc (.cells #[.string s,.slice Ze U zc,.slice Zk R zd] 134)) (fun b=>B9≤b) M ⟨Ze,U,zc⟩ ⟨Zk,R,zd⟩):=aX.later Oc NG;clear NH Og V NG k0 k1 k2 k3 k4 k5 f u j N O Oc
    by_cases H:dG M
    ·have O0:decide (U=0∧R=0)=true:=aJ ⟨by rw[← Q.1,H.1];rfl,by rw[← Q.2,H.2];rfl⟩
     obtain rfl:o9=none:=by exact Ob.1 H
     clear Q H;have i:ai (out++fu dW cK (ng (bf dd ca cb)) a1 []=NS):=i.o;go_wp2_with fail;obtain⟨w9,Oi⟩:∃ W,W=(v6.alloc (.cells #[.string s,.slice Ze U zc,.slice Zk R zd] 134)):=⟨_,rfl⟩;rw[← Oi]at C ⊢;clear Oi NI;go_roundw
     case rel=>exact⟨a1,[],out,kr,A1,B,Ax,n1,0,q,(c-1),d,cx,rfl,rfl,rfl,by omega,by omega,Om.1,Om.2.below (C.mono g.below.size),⟨(fq.1 Ny.1).2,fun e he=>Ny.2 e (gY _ he)⟩,rfl,O_.below (C.mono g.below.size),N8,i,N7,NT.later C,g.low2 NU (C.mono g.below.size)⟩
     case measure=>simp[dS];omega
    ·have O0:decide (U=0∧R=0)=false:=aM fun h=>H ⟨jE.1 (by rw[Q.1];exact h.1),jE.1 (by rw[Q.2];exact h.2)⟩
     obtain rfl:o9=some (s,M):=by exact Ob.2 H
     clear Q H;obtain⟨A6,c6,w6,r6,Oa,V,_⟩:=bK.vL (k:=(s,⟨Ze,U,zc⟩,⟨Zk,R,zd⟩)) Tryz.underlying33 qV rfl (by omega) (NT.later C) (v6.heap.size+1) NI (aN g.below.size C.size) (aX.mono (fun b hb _=>⟨by have r:=NZ.o;have h2:=g.below.size;have h3:B9≤b:=hb;omega,fun e=>by have r:=(NT.own.row.lt b e).2;have h2:=NZ.o;have h3:B9≤b:=hb;omega⟩) _ Od) (by have:=Ox.o;omega) #[.string s,.slice Ze U zc,.slice Zk R zd] rfl;have Oe:=ah r6;have Ow:=ah Oa;have Oj:=g.below.size;have NE:ai (Below w.heap.size wr w6):=(C.mono Oj).trans V
     have i:ai ((out++[(s,M)])++fu dW cK (ng (bf dd ca cb)) a1 []=NS):=by
      have r:=i.o;rw[← oh]at r;exact r
     have N7:ai ((out++[((s,M):Kd)]).length=q+1):=ah (by rw[bP,N7.o];rfl)
     clear r6 Oa V NI Oj;go_wp2_with (at_builtin;refine Lib.wpList_append_run _ rfl _ _ _ _ rfl _ _ rfl rfl _ _ Oe ?_);go_roundw
     case rel=>exact⟨a1,[],(out++[((s,M):Kd)]),_,A1,B,A6,n1,0,(q+1),(c-1),d,c6,rfl,rfl,by go_num,by omega,by omega,Om.1,Om.2.below NE,⟨(fq.1 Ny.1).2,fun e he=>Ny.2 e (gY _ he)⟩,rfl,O_.below NE,N8,i,N7,Ow,g.low2 NU NE⟩
     case measure=>simp[dS];omega
  ·by_cases Qf:0<m
   ·obtain rfl:n=0:=by omega
    obtain rfl:a=[]:=jE.1 O7
    obtain⟨y,b1,rfl⟩:∃ x l,b=x::l:=by
     cases b with
     | nil=>have r:=O8.o;simp at r;omega
     | cons x l=>exact⟨x,l,rfl⟩
    obtain⟨v,yt⟩:=y;obtain⟨L,Z,rfl,Pm,⟨⟨Ye,yn,yc⟩,⟨Yk,ym,yd⟩,y0,y1,y2,OC⟩⟩:=O_.head (by omega);dsimp only at y1 y2;have OJ:=ah OC;have PX:L<wr.heap.size:=aL wr _ y0;obtain⟨m1,O1⟩:∃ z,z=m-1:=⟨_,rfl⟩
    obtain⟨B1,OG⟩:∃ z,z=(if d=1 then some (⟨L,Z,none⟩:Addr)else (some (⟨L,Z,none⟩:Addr)).map (·.add (1*3))):=⟨_,rfl⟩
    have Px:∀ W,(Instr.slice 33 (.slice (some ⟨L,Z,none⟩) m d) (some (.int .i64 1)) none none).run Tryz.prog W = .ok (.slice B1 m1 (d-1)) W:=fun W=>by
     have r:=dV (P:=Tryz.prog) 33 134 3 Tryz.underlying33 Ph Pn (some ⟨L,Z,none⟩) m d 1 (by omega) W;rw[← OG,← O1]at r;exact r
    have Oo:ai (b1.length=m1∧yG wr w.heap.size B1 m1 (d-1) b1):=by
     have h2:=O8.o;refine⟨by rw[O1];simp at h2;omega,?_⟩;rw[OG,O1];exact O_.tail (by omega)
    have Qb:((m:Int)==0)=false:=by rw[gP];omega
    have Qc:decide ((0:Int)<(m:Int))=true:=aJ (by omega)
    have PL:m1+1=m:=by omega
    clear O1 OG OC;have f:=ah (((((((Kept.nil wr).af g.c1).af g.c0).af y2).af y1).af y0).drew);go_wp2_with fail;refine Rg (S:=fun W=>W.cell? ⟨L,Z,none⟩=some (.string v)∧W.cell? ⟨L,Z+1,none⟩=some (.slice Ye yn yc)∧W.cell? ⟨L,Z+2,none⟩=some (.slice Yk ym yd)) (by exact⟨f.c0,f.c1,f.c2⟩) (fun hHeld=>?_);refine T4 0 24 1 25 2 26 3 27 ?_;refine T4 4 28 5 29 6 30 7 31 ?_;refine U4 8 32 9 33 10 34 11 35 ?_;refine U4 12 36 13 37 14 38 15 39 ?_;refine Tn 16 40 ?_;refine T3 17 41 18 42 19 10 ?_;refine Td ?_;clear hHeld;go_wp2_with fail
    have f:=ah (f.drew);refine Rg (S:=fun W=>W.cell? ⟨L,Z,none⟩=some (.string v)∧W.cell? ⟨L,Z+1,none⟩=some (.slice Ye yn yc)∧W.cell? ⟨L,Z+2,none⟩=some (.slice Yk ym yd)) (by exact⟨f.c0,f.c1,f.c2⟩) (fun hHeld=>?_);refine T4 0 43 1 44 2 45 3 46 ?_;refine U4 4 47 5 48 6 49 7 50 ?_;refine U4 8 51 9 52 10 53 11 54 ?_;refine U4 12 55 13 56 14 57 15 58 ?_;refine U2 16 59 17 60 ?_;refine T2 18 61 19 11 ?_;refine Td ?_;clear hHeld;have O5:=f.below.size;obtain⟨W5,p,F,Oq,NJ,NF,u,j,N,O,Oh⟩:=BS (wr.drew.drew);have f:=ah (f.later Oh)
    have u:=ah (u.rebase f.below);have j:=ah (j.rebase f.below);have Oq:ai (W5=((wr.alloc (.cells #[.string ⟨#[]⟩,.slice none 0 0,.slice none 0 0] 134)).alloc (.cells #[.string ⟨#[]⟩,.slice none 0 0,.slice none 0 0] 134)).drew.drew):=Oq.o;have NJ:ai (p=wr.heap.size):=NJ.o
    have Ot:wr.heap.size≤p:=by have:=NJ.o;omega
    have NC:wr.heap.size≤F:=by have:=NF.o;omega
    have Pj:¬p=F:=by have:=NF.o;omega
    have OO:¬F=p:=by omega
    have Ol:=g.below.size
    have Pf:¬ba=p:=by have:=Ou.o;omega
    have OL:¬ba=F:=by have:=Ou.o;omega
    have Pg:¬bb=p:=by have:=Ov.o;omega
    have OM:¬bb=F:=by have:=Ov.o;omega
    have Pq:¬L=p:=by omega
    have OX:¬L=F:=by omega
    have Ps:¬p=L:=by omega
    have OY:¬F=L:=by omega
    clear O5 Oh Ol;go_wp2_with fail;rw[← NJ.o,← NF.o,← Oq.o];obtain⟨s0,s1,s2,-⟩:=j.cj;have m0:=O.2 0;have m1:=O.2 1;have m2:=O.2 2;obtain⟨t0,t1,t2,-⟩:=f.cj;refine Rk (S:=fun W=>W.cell? ⟨L,Z,none⟩=some (.string v)∧W.cell? ⟨L,Z+1,none⟩=some (.slice Ye yn yc)∧W.cell? ⟨L,Z+2,none⟩=some (.slice Yk ym yd)) (fun hHeld=>?_);refine T4 0 69 1 70 2 71 3 72 ?_;refine Tk 4 73 ?_;refine Tc 5 (fun K hK=>?_);go_simp;refine Th hK ?_ (fun D=>?_)
    ·(try dsimp only);go_keep
    clear hK K hHeld;have hHeld:=D;clear D;refine Tk 6 1 ?_;refine Td ?_;clear hHeld s0 s1 s2 m0 m1 m2 t0 t1 t2;obtain⟨W6,G⟩:∃ W,W=((((W5.setCell ⟨F,0,none⟩ (.string v)).setCell ⟨F,1,none⟩ (.slice Ye yn yc)).setCell ⟨F,2,none⟩ (.slice Yk ym yd))).drew:=⟨_,rfl⟩
    have NN:ai (Kept [(⟨L,Z,none⟩,.string v),(⟨L,Z+1,none⟩,.slice Ye yn yc),(⟨L,Z+2,none⟩,.slice Yk ym yd),(⟨ba,2,none⟩,.slice Ca na N_),(⟨bb,2,none⟩,.slice Cb nb NA)] wr W6):=by
     unfold ai;rw[G];exact (f.past3 (p:=F) NC (by simp[*]) _ _ _).drew
    have NP:ai (Kept [(⟨F,0,none⟩,.string v),(⟨F,1,none⟩,.slice Ye yn yc),(⟨F,2,none⟩,.slice Yk ym yd)] wr W6):=by
     unfold ai;rw[G];exact ((Kept.a_ f.below).gT (p:=F) NC (by simp) ⟨_,j.c0⟩ ⟨_,j.c1⟩ ⟨_,j.c2⟩ _ _ _).drew
    have NQ:ai (Kept [(⟨p,0,none⟩,.string ⟨#[]⟩),(⟨p,1,none⟩,.slice none 0 0),(⟨p,2,none⟩,.slice none 0 0)] wr W6):=by
     unfold ai;rw[G];exact (u.past3 (p:=F) NC (by simp[*]) _ _ _).drew
    have NK:ai (aA F W6):=ah (by rw[G];exact ((((O.set _ _).set _ _).set _ _)).drew)
    have NM:ai (aA p W6):=ah (by rw[G];exact ((((N.set _ _).set _ _).set _ _)).drew)
    have Oz:=ah G;clear G f j u O N;have f:=NN;have j:=NP;have u:=NQ;have O:=NK;have N:=NM;clear NN NP NQ NK NM;obtain⟨M,X⟩:∃ t,bf dd ca cb none_ yt=t:=⟨_,rfl⟩;obtain⟨o9,N9⟩:∃ o,ng (bf dd ca cb) (none) (some (v,yt))=o:=⟨_,rfl⟩
    have Ob:ai ((dG M→o9=none)∧(¬dG M→o9=some (v,M))):=by
     refine⟨fun h=>?_,fun h=>?_⟩
     ·rw[← N9]
      exact if_pos (show dG (bf dd ca cb none_ yt) by rw[X];exact h)
     ·rw[← N9]
      refine (if_neg (show ¬dG (bf dd ca cb none_ yt) by rw[X];exact h)).trans ?_;rw[← X];rfl
    have i:ai (out++(o9.toList++fu dW cK (ng (bf dd ca cb)) [] b1)=NS):=by
     have r:=i.o;rw[uI (key:=dW) (lt:=cK) (st:=ng (bf dd ca cb)) ((v,yt):Kd) b1,N9]at r;exact r
    have Ox:ai (q≤200000):=by
     have r:=congrArg List.length i.o;have h2:=OT.o;have h3:=OU.o;have h4:=N7.o;rw[bP]at r;unfold ai;omega
    have Oy:ai (Calls Tryz.prog 185 #[.agg #[.string ⟨#[]⟩,.slice none 0 0,.slice none 0 0],.agg #[.string v,.slice Ye yn yc,.slice Yk ym yd],.pointer (some ⟨ba,0,none⟩),.pointer (some ⟨bb,0,none⟩)] W6 (uj v M W6)):=by
     refine nZ ⟨#[]⟩ v none none Ye Yk 0 0 0 0 yn ym yc yd Ca Cb na N_ nb NA ba bb W6 f.c3 f.c4 M v (if_pos rfl) fun W hb=>?_;have r:av w W:=g.below.trans ((f.below.trans (hb.mono f.below.size)).mono g.below.size);have h2:Below w.heap.size wr W:=(f.below.trans (hb.mono f.below.size)).mono g.below.size;rw[← X];exact OQ.o none_ yt none none Ye Yk Ca Cb 0 0 0 0 yn ym yc yd na N_ nb NA W (.inr rfl) (.inl (N8.2 _ fA).1) (fun h=>(N8.2 _ fA).2.2.1 h.2) (by rw[show nodes none_=0 from by unfold none_;rw[bJ];rfl];omega) (N8.2 _ fA).2.1 NV.1 NW.1 OZ Pb ((NV.2.1.below r).more r.size) ((NW.2.1.below r).more r.size) NV.2.2 NW.2.2 (aF.none _ _ _ _) (aF.more r.size _ (aF.below OJ h2))
    obtain⟨B9,Og⟩:∃ z,z=W6.heap.size:=⟨_,rfl⟩
    have NZ:ai (wr.heap.size≤B9):=ah (by rw[Og];exact f.below.size)
    clear N9 X;rw[← Oz.o];obtain⟨k0,k1,k2,-⟩:=u.cj;have k3:=j.c0;have k4:=j.c1;have k5:=j.c2;go_wp2_with fail;refine Oy.mono ?_;rintro e v6 ⟨Ze,U,zc,Zk,R,zd,rfl,NH,V⟩;have Oc:ai (aX v6 (fun b=>B9≤b) M ⟨Ze,U,zc⟩ ⟨Zk,R,zd⟩):=aX.mono (fun b hb _=>by omega) _ NH;have Q:M.es.length=U∧M.ks.length=R:=qg NH;have NY:=ah (f.below.trans (V.mono f.below.size));have O4:wr.heap.size≤v6.heap.size:=NY.size;have NG:av v6 (v6.alloc (.cells #[.string v,.slice Ze U zc,.slice Zk R zd] 134)):=Dt.ay _ _ _;have C:ai (av wr (v6.alloc (.cells #[.string v,.slice Ze U zc,.slice Zk R zd] 134))):=NY.trans (NG.mono O4)
    have NI:((v6.alloc (.cells #[.string v,.slice Ze U zc,.slice Zk R zd] 134))).heap.size=v6.heap.size+1:=by simp
    have Od:ai (aX (v6.alloc (.cells #[.string v,.slice Ze U zc,.slice Zk R zd] 134)) (fun b=>B9≤b) M ⟨Ze,U,zc⟩ ⟨Zk,R,zd⟩):=aX.later Oc NG;clear NH Og V NG k0 k1 k2 k3 k4 k5 f u j N O Oc
    by_cases H:dG M
    ·have O0:decide (U=0∧R=0)=true:=aJ ⟨by rw[← Q.1,H.1];rfl,by rw[← Q.2,H.2];rfl⟩
     obtain rfl:o9=none:=by exact Ob.1 H
     clear Q H;have i:ai (out++fu dW cK (ng (bf dd ca cb)) [] b1=NS):=i.o;go_wp2_with fail;obtain⟨w9,Oi⟩:∃ W,W=(v6.alloc (.cells #[.string v,.slice Ze U zc,.slice Zk R zd] 134)):=⟨_,rfl⟩;rw[← Oi]at C ⊢;clear Oi NI;go_roundw
     case rel=>exact⟨[],b1,out,kr,A,B1,Ax,0,m1,q,c,(d-1),cx,rfl,rfl,rfl,by omega,by omega,rfl,O9.below (C.mono g.below.size),Ny,Oo.1,Oo.2.below (C.mono g.below.size),⟨(fq.1 N8.1).2,fun e he=>N8.2 e (gY _ he)⟩,i,N7,NT.later C,g.low2 NU (C.mono g.below.size)⟩
     case measure=>simp[dS];omega
    ·have O0:decide (U=0∧R=0)=false:=aM fun h=>H ⟨jE.1 (by rw[Q.1];exact h.1),jE.1 (by rw[Q.2];exact h.2)⟩
     obtain rfl:o9=some (v,M):=by exact Ob.2 H
     clear Q H;obtain⟨A6,c6,w6,r6,Oa,V,_⟩:=bK.vL (k:=(v,⟨Ze,U,zc⟩,⟨Zk,R,zd⟩)) Tryz.underlying33 qV rfl (by omega) (NT.later C) (v6.heap.size+1) NI (aN g.below.size C.size) (aX.mono (fun b hb _=>⟨by have r:=NZ.o;have h2:=g.below.size;have h3:B9≤b:=hb;omega,fun e=>by have r:=(NT.own.row.lt b e).2;have h2:=NZ.o;have h3:B9≤b:=hb;omega⟩) _ Od) (by have:=Ox.o;omega) #[.string v,.slice Ze U zc,.slice Zk R zd] rfl;have Oe:=ah r6;have Ow:=ah Oa;have Oj:=g.below.size;have NE:ai (Below w.heap.size wr w6):=(C.mono Oj).trans V
     have i:ai ((out++[(v,M)])++fu dW cK (ng (bf dd ca cb)) [] b1=NS):=by
      have r:=i.o;rw[← oh]at r;exact r
     have N7:ai ((out++[((v,M):Kd)]).length=q+1):=ah (by rw[bP,N7.o];rfl)
     clear r6 Oa V NI Oj;go_wp2_with (at_builtin;refine Lib.wpList_append_run _ rfl _ _ _ _ rfl _ _ rfl rfl _ _ Oe ?_);go_roundw
     case rel=>exact⟨[],b1,(out++[((v,M):Kd)]),_,A,B1,A6,0,m1,(q+1),c,(d-1),c6,rfl,rfl,by go_num,by omega,by omega,rfl,O9.below NE,Ny,Oo.1,Oo.2.below NE,⟨(fq.1 N8.1).2,fun e he=>N8.2 e (gY _ he)⟩,i,N7,Ow,g.low2 NU NE⟩
     case measure=>simp[dS];omega
   ·obtain rfl:n=0:=by omega
    obtain rfl:m=0:=by omega
    obtain rfl:a=[]:=jE.1 O7.o;obtain rfl:b=[]:=jE.1 O8.o;have ho:=i.o;rw[oJ,kR]at ho;subst ho;go_wp2_with fail;go_ret;exact⟨Ax,q,cx,kr,rfl,NT,g.below⟩
end Cs
end Go.Proofs.YtgeafpaognhokaaGreat
