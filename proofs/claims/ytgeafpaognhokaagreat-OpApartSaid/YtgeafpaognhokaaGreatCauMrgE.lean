/- What is known: two rising lists of entries, side by side. -/
import Derived.Test.YtgeafpaognhokaaGreatG00
import Derived.Test.YtgeafpaognhokaaGreatG20
namespace Go.Proofs.YtgeafpaognhokaaGreat
open Go.ChangeShapes Go.WideShapes Go.ChangeAt Go.RowKit
namespace Cs
open Tr Cx Sp Rw
theorem cmp_gt {a n b m:Int} : 0<Dt.cmpI a n b m↔ltD (b,m) (a,n):=by
 unfold Dt.cmpI ltD;dsimp only
 by_cases h1:a<b∨(a=b∧n<m)
 ·rw[if_pos h1];simp;omega
 ·rw[if_neg h1]
  by_cases h2:a=b∧n=m
  ·rw[if_pos h2];simp;omega
  ·rw[if_neg h2];simp;omega
section
variable {l:List (Addr×Value)} {w0 W w':World} {p:Nat}
theorem _root_.Go.Proofs.YtgeafpaognhokaaGreat.Kept.past4 (K:Kept l w0 W) (hp:w0.heap.size≤p) (hl:∀ x∈l,x.1.block≠p) (v0 v1 v2 v3:Value):Kept l w0 ((((W.setCell ⟨p,0,none⟩ v0).setCell ⟨p,1,none⟩ v1).setCell ⟨p,2,none⟩ v2).setCell ⟨p,3,none⟩ v3):=
 (((K.set (a:=⟨p,0,none⟩) hp hl v0).set (a:=⟨p,1,none⟩) hp hl v1).set (a:=⟨p,2,none⟩) hp hl v2).set (a:=⟨p,3,none⟩) hp hl v3
theorem _root_.Go.Proofs.YtgeafpaognhokaaGreat.Kept.set4 (K:Kept l w0 W) (hp:w0.heap.size≤p) (hl:∀ x∈l,x.1.block≠p) (h0:∃ u,W.cell? ⟨p,0,none⟩=some u) (h1:∃ u,W.cell? ⟨p,1,none⟩=some u) (h2:∃ u,W.cell? ⟨p,2,none⟩=some u) (h3:∃ u,W.cell? ⟨p,3,none⟩=some u) (v0 v1 v2 v3:Value):Kept ((⟨p,0,none⟩,v0)::(⟨p,1,none⟩,v1)::(⟨p,2,none⟩,v2)::(⟨p,3,none⟩,v3)::l) w0 ((((W.setCell ⟨p,0,none⟩ v0).setCell ⟨p,1,none⟩ v1).setCell ⟨p,2,none⟩ v2).setCell ⟨p,3,none⟩ v3):=by
 obtain⟨u0,h0⟩:=h0;obtain⟨u1,h1⟩:=h1;obtain⟨u2,h2⟩:=h2;obtain⟨u3,h3⟩:=h3
 refine ((((K.past4 hp hl v0 v1 v2 v3).cons_of ?_).cons_of ?_).cons_of ?_).cons_of ?_ <;> go_simp
theorem _root_.Go.Proofs.YtgeafpaognhokaaGreat.Kept.rebase {w1:World} (K:Kept l w1 W) (h:Below w0.heap.size w0 W):Kept l w0 W:=⟨h,K.2⟩
theorem _root_.Go.Proofs.YtgeafpaognhokaaGreat.Kept.low2 (K:Kept l w0 W) (hl:∀ x∈l,x.1.block<w0.heap.size) (hb:Below w0.heap.size W w'):Kept l w0 w':=⟨K.1.trans hb,fun x hx=>⟨Nat.lt_of_lt_of_le (hl x hx) (K.1.trans hb).size,(hb.cell (p:=x.1) (hl x hx)).trans (K.2 x hx).2⟩⟩
end
theorem boxE2 (w:World):∃ (W:World) (p q:Nat),Hid (W=(w.alloc (.cells #[.int .i64 0,.int .i64 0,.string ⟨#[]⟩,.int .i64 0] 97)).alloc (.cells #[.int .i64 0,.int .i64 0,.string ⟨#[]⟩,.int .i64 0] 97))∧Hid (p=w.heap.size)∧Hid (q=p+1)∧Hid (Kept [(⟨p,0,none⟩,.int .i64 0),(⟨p,1,none⟩,.int .i64 0),(⟨p,2,none⟩,.string ⟨#[]⟩),(⟨p,3,none⟩,.int .i64 0)] w W)∧Hid (Kept [(⟨q,0,none⟩,.int .i64 0),(⟨q,1,none⟩,.int .i64 0),(⟨q,2,none⟩,.string ⟨#[]⟩),(⟨q,3,none⟩,.int .i64 0)] w W)∧Hid (Free p W)∧Hid (Free q W)∧Below w.heap.size w W:=by
 refine⟨_,_,_,rfl,rfl,rfl,?_,?_,⟨by simp;omega,fun j=>by go_simp⟩,⟨by simp,fun j=>by go_simp⟩,Dt.box2_below _ _ _ _ _⟩
 ·have h0:=Kept.nil_of (Dt.box2_below w #[.int .i64 0,.int .i64 0,.string ⟨#[]⟩,.int .i64 0] #[.int .i64 0,.int .i64 0,.string ⟨#[]⟩,.int .i64 0] 97 97)
  refine (((h0.cons_of ?_).cons_of ?_).cons_of ?_).cons_of ?_ <;> go_simp
 ·have h0:=Kept.nil_of (Dt.box2_below w #[.int .i64 0,.int .i64 0,.string ⟨#[]⟩,.int .i64 0] #[.int .i64 0,.int .i64 0,.string ⟨#[]⟩,.int .i64 0] 97 97)
  refine (((h0.cons_of ?_).cons_of ?_).cons_of ?_).cons_of ?_ <;> go_simp
set_option maxRecDepth 100000 in
set_option maxHeartbeats 4000000 in
theorem mergedE_any (ca cb:List S3) (Ca Cb:Option Addr) (na ca9 nb cb9 ba bb:Nat) (es es2:List E) (A B:Option Addr) (n m c d:Nat) (w:World) (hla:ca.length=na) (hlb:cb.length=nb) (hna:na≤100000) (hnb:nb≤100000)
  (hca:w.cell? ⟨ba,2,none⟩=some (.slice Ca na ca9)) (hcb:w.cell? ⟨bb,2,none⟩=some (.slice Cb nb cb9)) (hra:Rd w w.heap.size 3 Ca na ca9 (spsC ca)) (hrb:Rd w w.heap.size 3 Cb nb cb9 (spsC cb)) (hRa:RightC ca) (hRb:RightC cb)
  (hl1:es.length=n) (hl2:es2.length=m) (hn:n≤100000) (hm:m≤100000) (hr1:Rd w w.heap.size 4 A n c (entsC es)) (hr2:Rd w w.heap.size 4 B m d (entsC es2)) (hu1:Up keyE ltD es) (hu2:Up keyE ltD es2) (hg1:∀ e∈es,1≤e.n) (hg2:∀ e∈es2,1≤e.n) :
  Calls Tryz.prog 179 #[.slice A n c,.slice B m d,.func (.func 178) #[] #[],.func (.func 180) #[] #[.pointer (some ⟨bb,0,none⟩),.pointer (some ⟨ba,0,none⟩)]] w fun e w'=>∃ A' q c',e = .returned (.slice A' q c')∧(mrg keyE ltD (stE ca cb) es es2).length=q∧Own w' w.heap.size 97 4 A' q c' (entsC (mrg keyE ltD (stE ca cb) es es2))∧Below w.heap.size w w':=by
 have HPA:=Lib.hid (And.intro hla (And.intro hra hRa));have HPB:=Lib.hid (And.intro hlb (And.intro hrb hRb));have HK0:=Lib.hid (((Kept.nil w).cons_of hcb).cons_of hca);have HBA:Hid (ba<w.heap.size):=World.block_lt_of_cell? w _ hca;have HBB:Hid (bb<w.heap.size):=World.block_lt_of_cell? w _ hcb
 have HLOW:Hid (∀ x∈([(⟨ba,2,none⟩,.slice Ca na ca9),(⟨bb,2,none⟩,.slice Cb nb cb9)]:List (Addr×Value)),x.1.block<w.heap.size):=by
  have h1:=HBA.out;have h2:=HBB.out;intro x hx
  simp at hx
  rcases hx with rfl | rfl <;> assumption
 obtain⟨tot,htot⟩:∃ l,mrg keyE ltD (stE ca cb) es es2=l:=⟨_,rfl⟩;rw[htot];have HTOT:=Lib.hid htot
 have HLT:Hid (tot.length≤n+m):=by
  unfold Hid;rw[← htot]
  have h1:=mrg_weight (key:=keyE) (lt:=ltD) (st:=stE ca cb) (fun _=>1) (fun x y z h=>by
   refine stE_le x y z h fun hn=>?_;rw[hn.1,hn.2]at h
   cases h) es es2
  have e1:∀ l:List E,(l.map fun _=>1).sum=l.length:=fun l=>by
   induction l with
   | nil=>rfl
   | cons k l ih=>simp only[List.map_cons,List.sum_cons,List.length_cons,ih];omega
  rw[e1,e1,e1]at h1;omega
 have HA0:=Lib.hid (And.intro hl1 (And.intro hr1 (And.intro hu1 hg1)));have HB0:=Lib.hid (And.intro hl2 (And.intro hr2 (And.intro hu2 hg2)))
 have HNM:Hid (n+m≤200000):=by unfold Hid;omega
 obtain⟨i0,hi0,hz0,hz1,hz2⟩:=info_of infoE;clear hla hlb hca hcb hra hrb hRa hRb hr1 hr2 hu1 hu2 hg1 hg2 htot hl1 hl2;go_enter Tryz.func179,Tryz.ntmps179;go_wp2_with fail
 go_loopw [0,1,9] (fun sa sb so wr=>∃ (a b out:List E) (A B Ax:Option Addr) (n m q c d cx:Nat),sa = .slice A n c∧sb = .slice B m d∧so = .slice Ax q cx∧n≤100000∧m≤100000∧Hid (a.length=n)∧Hid (Rd wr w.heap.size 4 A n c (entsC a))∧Hid (Up keyE ltD a∧∀ e∈a,1≤e.n)∧Hid (b.length=m)∧Hid (Rd wr w.heap.size 4 B m d (entsC b))∧Hid (Up keyE ltD b∧∀ e∈b,1≤e.n)∧Hid (out++mrg keyE ltD (stE ca cb) a b=tot)∧Hid (out.length=q)∧Hid (Own wr w.heap.size 97 4 Ax q cx (entsC out))∧Hid (Kept [(⟨ba,2,none⟩,.slice Ca na ca9),(⟨bb,2,none⟩,.slice Cb nb cb9)] w wr)) (fun sa sb _ _=>cntOf (some sa)+cntOf (some sb))
 case atStart=>exact⟨es,es2,[],A,B,none,n,m,0,c,d,0,rfl,rfl,rfl,hn,hm,HA0.out.1,HA0.out.2.1,HA0.out.2.2,HB0.out.1,HB0.out.2.1,HB0.out.2.2,by have h1:=HTOT.out;exact h1,rfl,⟨World.ownsRow_nil _ _ _ _,by simp[entsC]⟩,HK0.out⟩
 case round=>
  clear HA0 HB0 hn hm;obtain⟨a,b,out,A,B,Ax,n,m,q,c,d,cx,rfl,rfl,rfl,hn,hm,HLA,HRA,HGA,HLB,HRB,HGB,HOUT,HLO,HOW,HKW⟩:=hrel
  by_cases hn0:0<n
  ·by_cases hm0:0<m
   ·obtain⟨x,a1,rfl⟩:∃ x l,a=x::l:=by
     cases a with
     | nil=>have h1:=HLA.out;simp at h1;omega
     | cons x l=>exact⟨x,l,rfl⟩
    obtain⟨xa,xn,xs,xv⟩:=x;obtain⟨u1,o1,rfl,hu1,hc⟩:=rd_elem entC_len HRA.out (m:=0) (by omega)
    have x0:wr.cell? ⟨u1,o1,none⟩=some (.int .i64 xa):=by have:=hc 0 (by simp) 0 _ rfl;simpa using this
    have x1:wr.cell? ⟨u1,o1+1,none⟩=some (.int .i64 xn):=by have:=hc 0 (by simp) 1 _ rfl;simpa using this
    have x2:wr.cell? ⟨u1,o1+2,none⟩=some (.string xs):=by have:=hc 0 (by simp) 2 _ rfl;simpa using this
    have x3:wr.cell? ⟨u1,o1+3,none⟩=some (.int .i64 xv):=by have:=hc 0 (by simp) 3 _ rfl;simpa using this
    have hwu1:u1<wr.heap.size:=World.block_lt_of_cell? wr _ x0;obtain⟨n1,hn1⟩:∃ z,z=n-1:=⟨_,rfl⟩
    obtain⟨A1,hA1⟩:∃ z,z=(if c=1 then some (⟨u1,o1,none⟩:Addr)else (some (⟨u1,o1,none⟩:Addr)).map (·.add (1*4))):=⟨_,rfl⟩
    have hcutx:∀ W,(Instr.slice 32 (.slice (some ⟨u1,o1,none⟩) n c) (some (.int .i64 1)) none none).run Tryz.prog W = .ok (.slice A1 n1 (c-1)) W:=fun W=>by
     have h1:=run_cut_from (P:=Tryz.prog) 32 97 4 Tryz.underlying32 hi0 hz1 (some ⟨u1,o1,none⟩) n c 1 (by omega) W;rw[← hA1,← hn1]at h1;exact h1
    have HA1:Hid (a1.length=n1∧Rd wr w.heap.size 4 A1 n1 (c-1) (entsC a1)):=by
     have h1:=HRA.out.from_ (i:=1) (by omega);have h2:=HLA.out;refine⟨by rw[hn1];simp at h2;omega,?_⟩;rw[hA1,hn1];exact h1
    have fna:((n:Int)==0)=false:=by rw[beq_eq_false_iff_ne];omega
    have fnb:decide ((0:Int)<(n:Int))=true:=decide_eq_true (by omega)
    have hnn1:n1+1=n:=by omega
    clear hc hn1 hA1
    obtain⟨y,b1,rfl⟩:∃ x l,b=x::l:=by
     cases b with
     | nil=>have h1:=HLB.out;simp at h1;omega
     | cons x l=>exact⟨x,l,rfl⟩
    obtain⟨ya,yn,ys,yv⟩:=y;obtain⟨u2,o2,rfl,hu2,hc⟩:=rd_elem entC_len HRB.out (m:=0) (by omega)
    have y0:wr.cell? ⟨u2,o2,none⟩=some (.int .i64 ya):=by have:=hc 0 (by simp) 0 _ rfl;simpa using this
    have y1:wr.cell? ⟨u2,o2+1,none⟩=some (.int .i64 yn):=by have:=hc 0 (by simp) 1 _ rfl;simpa using this
    have y2:wr.cell? ⟨u2,o2+2,none⟩=some (.string ys):=by have:=hc 0 (by simp) 2 _ rfl;simpa using this
    have y3:wr.cell? ⟨u2,o2+3,none⟩=some (.int .i64 yv):=by have:=hc 0 (by simp) 3 _ rfl;simpa using this
    have hwu2:u2<wr.heap.size:=World.block_lt_of_cell? wr _ y0;obtain⟨m1,hm1⟩:∃ z,z=m-1:=⟨_,rfl⟩
    obtain⟨B1,hB1⟩:∃ z,z=(if d=1 then some (⟨u2,o2,none⟩:Addr)else (some (⟨u2,o2,none⟩:Addr)).map (·.add (1*4))):=⟨_,rfl⟩
    have hcuty:∀ W,(Instr.slice 32 (.slice (some ⟨u2,o2,none⟩) m d) (some (.int .i64 1)) none none).run Tryz.prog W = .ok (.slice B1 m1 (d-1)) W:=fun W=>by
     have h1:=run_cut_from (P:=Tryz.prog) 32 97 4 Tryz.underlying32 hi0 hz1 (some ⟨u2,o2,none⟩) m d 1 (by omega) W;rw[← hB1,← hm1]at h1;exact h1
    have HB1:Hid (b1.length=m1∧Rd wr w.heap.size 4 B1 m1 (d-1) (entsC b1)):=by
     have h1:=HRB.out.from_ (i:=1) (by omega);have h2:=HLB.out;refine⟨by rw[hm1];simp at h2;omega,?_⟩;rw[hB1,hm1];exact h1
    have fma:((m:Int)==0)=false:=by rw[beq_eq_false_iff_ne];omega
    have fmb:decide ((0:Int)<(m:Int))=true:=decide_eq_true (by omega)
    have hnm1:m1+1=m:=by omega
    clear hc hm1 hB1
    by_cases hlt:ltD (xa,xn) (ya,yn)
    ·have hcmp:=hlt
     have HKc:=Lib.hid ((((((((((((Kept.nil wr).cons_of HKW.out.c1).cons_of HKW.out.c0).cons_of y3).cons_of y2).cons_of y1).cons_of y0).cons_of x3).cons_of x2).cons_of x1).cons_of x0).drew);obtain⟨c9,hc9⟩:∃ z,Dt.cmpI xa xn ya yn=z:=⟨_,rfl⟩;have HC9:=Lib.hid hc9;have g1:decide (c9≤0)=true:=decide_eq_true (by have:=cmp_dot.2 hcmp;omega);have g2:decide (0≤c9)=false:=decide_eq_false (by have:=cmp_dot.2 hcmp;omega);clear hc9;go_wp2_with fail;refine wp_region_held_drew (S:=fun W=>W.cell? ⟨u1,o1,none⟩=some (.int .i64 xa)∧W.cell? ⟨u1,o1+1,none⟩=some (.int .i64 xn)∧W.cell? ⟨u1,o1+2,none⟩=some (.string xs)∧W.cell? ⟨u1,o1+3,none⟩=some (.int .i64 xv)∧W.cell? ⟨u2,o2,none⟩=some (.int .i64 ya)∧W.cell? ⟨u2,o2+1,none⟩=some (.int .i64 yn)∧W.cell? ⟨u2,o2+2,none⟩=some (.string ys)∧W.cell? ⟨u2,o2+3,none⟩=some (.int .i64 yv)) (by kernel_rfl) (by exact⟨HKc.out.c0,HKc.out.c1,HKc.out.c2,HKc.out.c3,HKc.out.c4,HKc.out.c5,HKc.out.c6,HKc.out.c7⟩) (fun hHeld=>?_)
     refine Tk 0 24 ?_;refine Tk 1 25 ?_;refine Tk 2 26 ?_;refine Tk 3 27 ?_;refine Tk 4 28 ?_;refine Tk 5 29 ?_;refine Tk 6 30 ?_;refine Tk 7 31 ?_;refine Tk 8 32 ?_;refine Tk 9 33 ?_;refine Tk 10 34 ?_;refine Tk 11 35 ?_;refine Tk 12 36 ?_;refine Tk 13 37 ?_;refine Tk 14 38 ?_;refine Tc 15 (fun K hK=>?_);go_simp;(go_at_call 178;refine (byDot_any ⟨xa,xn,xs,xv⟩ ⟨ya,yn,ys,yv⟩ _).mono ?_);rw[HC9.out];rintro e v1 ⟨rfl,hb9⟩;have HKc:=Lib.hid (HKc.out.later hb9);clear hb9;clear hHeld;refine Th hK ?_ (fun hHeld=>?_)
     ·exact⟨HKc.out.c0,HKc.out.c1,HKc.out.c2,HKc.out.c3,HKc.out.c4,HKc.out.c5,HKc.out.c6,HKc.out.c7⟩
     clear hK K;refine Tk 16 40 ?_;refine Tk 17 41 ?_;refine Tk 18 42 ?_;refine Tk 19 10 ?_;refine wpAnyH_done (by kernel_rfl) ?_ _;clear hHeld;go_wp2_with fail;have HKc:=Lib.hid (HKc.out.drew);refine wp_region_held_drew (S:=fun W=>W.cell? ⟨u1,o1,none⟩=some (.int .i64 xa)∧W.cell? ⟨u1,o1+1,none⟩=some (.int .i64 xn)∧W.cell? ⟨u1,o1+2,none⟩=some (.string xs)∧W.cell? ⟨u1,o1+3,none⟩=some (.int .i64 xv)∧W.cell? ⟨u2,o2,none⟩=some (.int .i64 ya)∧W.cell? ⟨u2,o2+1,none⟩=some (.int .i64 yn)∧W.cell? ⟨u2,o2+2,none⟩=some (.string ys)∧W.cell? ⟨u2,o2+3,none⟩=some (.int .i64 yv)) (by kernel_rfl) (by exact⟨HKc.out.c0,HKc.out.c1,HKc.out.c2,HKc.out.c3,HKc.out.c4,HKc.out.c5,HKc.out.c6,HKc.out.c7⟩) (fun hHeld=>?_);refine Tk 0 43 ?_;refine Tk 1 44 ?_;refine Tk 2 45 ?_;refine Tk 3 46 ?_;refine Tk 4 47 ?_;refine Tk 5 48 ?_;refine Tk 6 49 ?_
     refine Tk 7 50 ?_;refine Tk 8 51 ?_;refine Tk 9 52 ?_;refine Tk 10 53 ?_;refine Tk 11 54 ?_;refine Tk 12 55 ?_;refine Tk 13 56 ?_;refine Tk 14 57 ?_;refine Tc 15 (fun K hK=>?_);go_simp;(go_at_call 178;refine (byDot_any ⟨xa,xn,xs,xv⟩ ⟨ya,yn,ys,yv⟩ _).mono ?_);rw[HC9.out];rintro e v2 ⟨rfl,hb9⟩;have HKc:=Lib.hid (HKc.out.later hb9);clear hb9;clear hHeld;refine Th hK ?_ (fun hHeld=>?_)
     ·exact⟨HKc.out.c0,HKc.out.c1,HKc.out.c2,HKc.out.c3,HKc.out.c4,HKc.out.c5,HKc.out.c6,HKc.out.c7⟩
     clear hK K;refine Tk 16 59 ?_;refine Tk 17 60 ?_;refine Tk 18 61 ?_;refine Tk 19 11 ?_;refine wpAnyH_done (by kernel_rfl) ?_ _;clear hHeld;have hsz:=HKc.out.below.size;obtain⟨W5,p,p2,HW5,HP5,HQ5,HPX,HPY,HFX,HFY,hb5⟩:=boxE2 (v2);have HKc:=Lib.hid (HKc.out.later hb5);have HPX:=Lib.hid (HPX.out.rebase HKc.out.below);have HPY:=Lib.hid (HPY.out.rebase HKc.out.below)
     have hpw:wr.heap.size≤p:=by have:=HP5.out;omega
     have hpw2:wr.heap.size≤p2:=by have:=HQ5.out;omega
     have hpp:¬p=p2:=by have:=HQ5.out;omega
     have hpp2:¬p2=p:=by omega
     have hwwr:=HKW.out.below.size
     have hap:¬ba=p:=by have:=HBA.out;omega
     have hap2:¬ba=p2:=by have:=HBA.out;omega
     have hbp:¬bb=p:=by have:=HBB.out;omega
     have hbp2:¬bb=p2:=by have:=HBB.out;omega
     have h1p:¬u1=p:=by omega
     have h1p2:¬u1=p2:=by omega
     have h1q:¬p=u1:=by omega
     have h1q2:¬p2=u1:=by omega
     have h2p:¬u2=p:=by omega
     have h2p2:¬u2=p2:=by omega
     have h2q:¬p=u2:=by omega
     have h2q2:¬p2=u2:=by omega
     clear hsz hb5 hwwr;go_wp2_with fail;rw[← HP5.out,← HQ5.out,← HW5.out];obtain⟨s0,s1,s2,s3,-⟩:=HPX.out.cj;have m0:=HFX.out.2 0;have m1:=HFX.out.2 1;have m2:=HFX.out.2 2;have m3:=HFX.out.2 3;obtain⟨t0,t1,t2,t3,-⟩:=HKc.out.cj;refine wp_region_held_drew (S:=fun W=>W.cell? ⟨u1,o1,none⟩=some (.int .i64 xa)∧W.cell? ⟨u1,o1+1,none⟩=some (.int .i64 xn)∧W.cell? ⟨u1,o1+2,none⟩=some (.string xs)∧W.cell? ⟨u1,o1+3,none⟩=some (.int .i64 xv)) (by kernel_rfl) (by go_keep) (fun hHeld=>?_);refine Tk 0 63 ?_;refine Tk 1 64 ?_;refine Tk 2 65 ?_;refine Tk 3 66 ?_;refine Tk 4 67 ?_;refine Tc 5 (fun K hK=>?_);go_simp;refine Th hK ?_ (fun hHeld2=>?_)
     ·(try dsimp only);go_keep
     clear hK K hHeld;have hHeld:=hHeld2;clear hHeld2;refine Tk 6 0 ?_;refine wpAnyH_done (by kernel_rfl) ?_ _;clear hHeld s0 s1 s2 s3 m0 m1 m2 m3 t0 t1 t2 t3;obtain⟨W6,hW6⟩:∃ W,W=(((((W5.setCell ⟨p,0,none⟩ (.int .i64 xa)).setCell ⟨p,1,none⟩ (.int .i64 xn)).setCell ⟨p,2,none⟩ (.string xs)).setCell ⟨p,3,none⟩ (.int .i64 xv))).drew:=⟨_,rfl⟩
     have HKn:Hid (Kept [(⟨u1,o1,none⟩,.int .i64 xa),(⟨u1,o1+1,none⟩,.int .i64 xn),(⟨u1,o1+2,none⟩,.string xs),(⟨u1,o1+3,none⟩,.int .i64 xv),(⟨u2,o2,none⟩,.int .i64 ya),(⟨u2,o2+1,none⟩,.int .i64 yn),(⟨u2,o2+2,none⟩,.string ys),(⟨u2,o2+3,none⟩,.int .i64 yv),(⟨ba,2,none⟩,.slice Ca na ca9),(⟨bb,2,none⟩,.slice Cb nb cb9)] wr W6):=by
      unfold Hid;rw[hW6];exact (HKc.out.past4 (p:=p) hpw (by simp[*]) _ _ _ _).drew
     have HNX:Hid (Kept [(⟨p,0,none⟩,.int .i64 xa),(⟨p,1,none⟩,.int .i64 xn),(⟨p,2,none⟩,.string xs),(⟨p,3,none⟩,.int .i64 xv)] wr W6):=by
      unfold Hid;rw[hW6];exact ((Kept.nil_of HKc.out.below).set4 (p:=p) hpw (by simp) ⟨_,HPX.out.c0⟩ ⟨_,HPX.out.c1⟩ ⟨_,HPX.out.c2⟩ ⟨_,HPX.out.c3⟩ _ _ _ _).drew
     have HOX:Hid (Kept [(⟨p2,0,none⟩,.int .i64 0),(⟨p2,1,none⟩,.int .i64 0),(⟨p2,2,none⟩,.string ⟨#[]⟩),(⟨p2,3,none⟩,.int .i64 0)] wr W6):=by
      unfold Hid;rw[hW6];exact (HPY.out.past4 (p:=p) hpw (by simp[*]) _ _ _ _).drew
     have HFN:Hid (Free p W6):=by unfold Hid;rw[hW6];exact (((((HFX.out.set _ _).set _ _).set _ _).set _ _)).drew
     have HFO:Hid (Free p2 W6):=by unfold Hid;rw[hW6];exact (((((HFY.out.set _ _).set _ _).set _ _).set _ _)).drew
     have HW6:=Lib.hid hW6;clear hW6 HKc HPX HPY HFX HFY;have HKc:=HKn;have HPX:=HNX;have HPY:=HOX;have HFX:=HFN;have HFY:=HFO;clear HKn HNX HOX HFN HFO;obtain⟨o9,ho9⟩:∃ o,stE ca cb (some ⟨xa,xn,xs,xv⟩) (none)=o:=⟨_,rfl⟩;have HO9:=Lib.hid ho9
     have HOUT:Hid (out++(o9.toList++mrg keyE ltD (stE ca cb) a1 (⟨ya,yn,ys,yv⟩::b1))=tot):=by
      have h1:=HOUT.out;rw[mrg_lt (key:=keyE) (lt:=ltD) (st:=stE ca cb) (x:=⟨xa,xn,xs,xv⟩) (y:=⟨ya,yn,ys,yv⟩) hcmp a1 b1,ho9]at h1;exact h1
     have HQT:Hid (q≤200000):=by
      have h1:=congrArg List.length HOUT.out;have h2:=HLT.out;have h3:=HNM.out;have h4:=HLO.out;rw[List.length_append]at h1;unfold Hid;omega
     have hst0:=stayE_left cb Cb nb cb9 ba bb xa xn xs xv W6 HPB.out.1 hnb HKc.out.t8.c1 ((HPB.out.2.1.below (HKW.out.below.trans (HKc.out.below.mono HKW.out.below.size))).more (HKW.out.below.trans (HKc.out.below.mono HKW.out.below.size)).size) HPB.out.2.2
     have HST:Hid (Calls Tryz.prog 180 #[.agg #[.int .i64 xa,.int .i64 xn,.string xs,.int .i64 xv],.agg #[.int .i64 0,.int .i64 0,.string ⟨#[]⟩,.int .i64 0],.pointer (some ⟨bb,0,none⟩),.pointer (some ⟨ba,0,none⟩)] W6 (StayE o9 W6)):=by
      unfold Hid;rw[← ho9];exact hst0
     clear hst0;clear ho9;rw[← HW6.out];obtain⟨k0,k1,k2,k3,-⟩:=HPX.out.cj;have k4:=HPY.out.c0;have k5:=HPY.out.c1;have k6:=HPY.out.c2;have k7:=HPY.out.c3;go_wp2_with fail;refine HST.out.mono ?_;rintro e v6 ⟨z,rfl,hz,hb6⟩;obtain⟨za,zn,zs,zv⟩:=z;have HB6:=Lib.hid (HKc.out.below.trans (hb6.mono HKc.out.below.size));have hs6:wr.heap.size≤v6.heap.size:=HB6.out.size;have hbz:Below v6.heap.size v6 (v6.alloc (.cells #[.int .i64 za,.int .i64 zn,.string zs,.int .i64 zv] 97)):=Dt.box_below _ _ _;have HB8:Hid (Below wr.heap.size wr (v6.alloc (.cells #[.int .i64 za,.int .i64 zn,.string zs,.int .i64 zv] 97))):=HB6.out.trans (hbz.mono hs6)
     have hs8:((v6.alloc (.cells #[.int .i64 za,.int .i64 zn,.string zs,.int .i64 zv] 97))).heap.size=v6.heap.size+1:=by simp
     clear hb6 hbz k0 k1 k2 k3 k4 k5 k6 k7 HKc HPX HPY HFX HFY
     cases o9 with
     | none=>
      have HOUT:Hid (out++mrg keyE ltD (stE ca cb) a1 (⟨ya,yn,ys,yv⟩::b1)=tot):=HOUT.out;go_wp2_with fail;obtain⟨w9,hw9⟩:∃ W,W=(v6.alloc (.cells #[.int .i64 za,.int .i64 zn,.string zs,.int .i64 zv] 97)):=⟨_,rfl⟩;rw[← hw9]at HB8 ⊢;clear hw9 hs8;go_roundw
      case rel=>exact⟨a1,_,out,A1,some ⟨u2,o2,none⟩,Ax,n1,m,q,(c-1),d,cx,rfl,rfl,rfl,by omega,by omega,HA1.out.1,HA1.out.2.below (HB8.out.mono HKW.out.below.size),⟨(List.pairwise_cons.1 HGA.out.1).2,fun e he=>HGA.out.2 e (List.mem_cons_of_mem _ he)⟩,HLB.out,HRB.out.below (HB8.out.mono HKW.out.below.size),HGB.out,HOUT.out,HLO.out,own_later HOW.out HB8.out,HKW.out.low2 HLOW.out (HB8.out.mono HKW.out.below.size)⟩
      case measure=>simp[cntOf];omega
     | some z9=>
      obtain rfl:=hz z9 rfl;obtain⟨A6,c6,w6,r6,HO6,hb6⟩:=push_ent ((v6.alloc (.cells #[.int .i64 za,.int .i64 zn,.string zs,.int .i64 zv] 97))) w.heap.size (v6.heap.size+1) hs8 (own_later HOW.out HB8.out) HLO.out (Nat.le_trans HKW.out.below.size HB8.out.size) (⟨za,zn,zs,zv⟩:E) (by have:=HQT.out;omega);dsimp only at r6;have Hrun:=Lib.hid r6;have HO7:=Lib.hid HO6;have hww:=HKW.out.below.size;have HB7:Hid (Below w.heap.size wr w6):=(HB8.out.mono hww).trans hb6
      have HOUT:Hid ((out++[⟨za,zn,zs,zv⟩])++mrg keyE ltD (stE ca cb) a1 (⟨ya,yn,ys,yv⟩::b1)=tot):=by
       have h1:=HOUT.out;rw[← List.append_assoc]at h1;exact h1
      have HLO:Hid ((out++[(⟨za,zn,zs,zv⟩:E)]).length=q+1):=by unfold Hid;rw[List.length_append,HLO.out];rfl
      clear r6 HO6 hb6 hs8 hww;go_wp2_with (at_builtin;refine Lib.wpList_append_run _ rfl _ _ _ _ rfl _ _ rfl rfl _ _ Hrun.out ?_);go_roundw
      case rel=>exact⟨a1,_,(out++[(⟨za,zn,zs,zv⟩:E)]),A1,some ⟨u2,o2,none⟩,A6,n1,m,(q+1),(c-1),d,c6,rfl,rfl,by go_num,by omega,by omega,HA1.out.1,HA1.out.2.below HB7.out,⟨(List.pairwise_cons.1 HGA.out.1).2,fun e he=>HGA.out.2 e (List.mem_cons_of_mem _ he)⟩,HLB.out,HRB.out.below HB7.out,HGB.out,HOUT.out,HLO.out,HO7.out,HKW.out.low2 HLOW.out HB7.out⟩
      case measure=>simp[cntOf];omega
    ·by_cases hgt:ltD (ya,yn) (xa,xn)
     ·have hcmp:=And.intro hlt hgt
      have HKc:=Lib.hid ((((((((((((Kept.nil wr).cons_of HKW.out.c1).cons_of HKW.out.c0).cons_of y3).cons_of y2).cons_of y1).cons_of y0).cons_of x3).cons_of x2).cons_of x1).cons_of x0).drew);obtain⟨c9,hc9⟩:∃ z,Dt.cmpI xa xn ya yn=z:=⟨_,rfl⟩;have HC9:=Lib.hid hc9;have g1:decide (c9≤0)=false:=decide_eq_false (by have h1:¬Dt.cmpI xa xn ya yn<0:=fun h=>hcmp.1 (cmp_dot.1 h);have h2:=cmp_gt.2 hcmp.2;omega);have g2:decide (0≤c9)=true:=decide_eq_true (by have h1:¬Dt.cmpI xa xn ya yn<0:=fun h=>hcmp.1 (cmp_dot.1 h);have h2:=cmp_gt.2 hcmp.2;omega);clear hc9;go_wp2_with fail;refine wp_region_held_drew (S:=fun W=>W.cell? ⟨u1,o1,none⟩=some (.int .i64 xa)∧W.cell? ⟨u1,o1+1,none⟩=some (.int .i64 xn)∧W.cell? ⟨u1,o1+2,none⟩=some (.string xs)∧W.cell? ⟨u1,o1+3,none⟩=some (.int .i64 xv)∧W.cell? ⟨u2,o2,none⟩=some (.int .i64 ya)∧W.cell? ⟨u2,o2+1,none⟩=some (.int .i64 yn)∧W.cell? ⟨u2,o2+2,none⟩=some (.string ys)∧W.cell? ⟨u2,o2+3,none⟩=some (.int .i64 yv)) (by kernel_rfl) (by exact⟨HKc.out.c0,HKc.out.c1,HKc.out.c2,HKc.out.c3,HKc.out.c4,HKc.out.c5,HKc.out.c6,HKc.out.c7⟩) (fun hHeld=>?_)
      refine Tk 0 24 ?_;refine Tk 1 25 ?_;refine Tk 2 26 ?_;refine Tk 3 27 ?_;refine Tk 4 28 ?_;refine Tk 5 29 ?_;refine Tk 6 30 ?_;refine Tk 7 31 ?_;refine Tk 8 32 ?_;refine Tk 9 33 ?_;refine Tk 10 34 ?_;refine Tk 11 35 ?_;refine Tk 12 36 ?_;refine Tk 13 37 ?_;refine Tk 14 38 ?_;refine Tc 15 (fun K hK=>?_);go_simp;(go_at_call 178;refine (byDot_any ⟨xa,xn,xs,xv⟩ ⟨ya,yn,ys,yv⟩ _).mono ?_);rw[HC9.out];rintro e v1 ⟨rfl,hb9⟩;have HKc:=Lib.hid (HKc.out.later hb9);clear hb9;clear hHeld;refine Th hK ?_ (fun hHeld=>?_)
      ·exact⟨HKc.out.c0,HKc.out.c1,HKc.out.c2,HKc.out.c3,HKc.out.c4,HKc.out.c5,HKc.out.c6,HKc.out.c7⟩
      clear hK K;refine Tk 16 40 ?_;refine Tk 17 41 ?_;refine Tk 18 42 ?_;refine Tk 19 10 ?_;refine wpAnyH_done (by kernel_rfl) ?_ _;clear hHeld;go_wp2_with fail;have HKc:=Lib.hid (HKc.out.drew);refine wp_region_held_drew (S:=fun W=>W.cell? ⟨u1,o1,none⟩=some (.int .i64 xa)∧W.cell? ⟨u1,o1+1,none⟩=some (.int .i64 xn)∧W.cell? ⟨u1,o1+2,none⟩=some (.string xs)∧W.cell? ⟨u1,o1+3,none⟩=some (.int .i64 xv)∧W.cell? ⟨u2,o2,none⟩=some (.int .i64 ya)∧W.cell? ⟨u2,o2+1,none⟩=some (.int .i64 yn)∧W.cell? ⟨u2,o2+2,none⟩=some (.string ys)∧W.cell? ⟨u2,o2+3,none⟩=some (.int .i64 yv)) (by kernel_rfl) (by exact⟨HKc.out.c0,HKc.out.c1,HKc.out.c2,HKc.out.c3,HKc.out.c4,HKc.out.c5,HKc.out.c6,HKc.out.c7⟩) (fun hHeld=>?_);refine Tk 0 43 ?_;refine Tk 1 44 ?_;refine Tk 2 45 ?_;refine Tk 3 46 ?_;refine Tk 4 47 ?_;refine Tk 5 48 ?_;refine Tk 6 49 ?_
      refine Tk 7 50 ?_;refine Tk 8 51 ?_;refine Tk 9 52 ?_;refine Tk 10 53 ?_;refine Tk 11 54 ?_;refine Tk 12 55 ?_;refine Tk 13 56 ?_;refine Tk 14 57 ?_;refine Tc 15 (fun K hK=>?_);go_simp;(go_at_call 178;refine (byDot_any ⟨xa,xn,xs,xv⟩ ⟨ya,yn,ys,yv⟩ _).mono ?_);rw[HC9.out];rintro e v2 ⟨rfl,hb9⟩;have HKc:=Lib.hid (HKc.out.later hb9);clear hb9;clear hHeld;refine Th hK ?_ (fun hHeld=>?_)
      ·exact⟨HKc.out.c0,HKc.out.c1,HKc.out.c2,HKc.out.c3,HKc.out.c4,HKc.out.c5,HKc.out.c6,HKc.out.c7⟩
      clear hK K;refine Tk 16 59 ?_;refine Tk 17 60 ?_;refine Tk 18 61 ?_;refine Tk 19 11 ?_;refine wpAnyH_done (by kernel_rfl) ?_ _;clear hHeld;have hsz:=HKc.out.below.size;obtain⟨W5,p,p2,HW5,HP5,HQ5,HPX,HPY,HFX,HFY,hb5⟩:=boxE2 (v2);have HKc:=Lib.hid (HKc.out.later hb5);have HPX:=Lib.hid (HPX.out.rebase HKc.out.below);have HPY:=Lib.hid (HPY.out.rebase HKc.out.below)
      have hpw:wr.heap.size≤p:=by have:=HP5.out;omega
      have hpw2:wr.heap.size≤p2:=by have:=HQ5.out;omega
      have hpp:¬p=p2:=by have:=HQ5.out;omega
      have hpp2:¬p2=p:=by omega
      have hwwr:=HKW.out.below.size
      have hap:¬ba=p:=by have:=HBA.out;omega
      have hap2:¬ba=p2:=by have:=HBA.out;omega
      have hbp:¬bb=p:=by have:=HBB.out;omega
      have hbp2:¬bb=p2:=by have:=HBB.out;omega
      have h1p:¬u1=p:=by omega
      have h1p2:¬u1=p2:=by omega
      have h1q:¬p=u1:=by omega
      have h1q2:¬p2=u1:=by omega
      have h2p:¬u2=p:=by omega
      have h2p2:¬u2=p2:=by omega
      have h2q:¬p=u2:=by omega
      have h2q2:¬p2=u2:=by omega
      clear hsz hb5 hwwr;go_wp2_with fail;rw[← HP5.out,← HQ5.out,← HW5.out];obtain⟨s0,s1,s2,s3,-⟩:=HPY.out.cj;have m0:=HFY.out.2 0;have m1:=HFY.out.2 1;have m2:=HFY.out.2 2;have m3:=HFY.out.2 3;have t0:=HKc.out.c4;have t1:=HKc.out.c5;have t2:=HKc.out.c6;have t3:=HKc.out.c7;refine wp_region_held_drew (S:=fun W=>W.cell? ⟨u2,o2,none⟩=some (.int .i64 ya)∧W.cell? ⟨u2,o2+1,none⟩=some (.int .i64 yn)∧W.cell? ⟨u2,o2+2,none⟩=some (.string ys)∧W.cell? ⟨u2,o2+3,none⟩=some (.int .i64 yv)) (by kernel_rfl) (by go_keep) (fun hHeld=>?_);refine Tk 0 69 ?_;refine Tk 1 70 ?_;refine Tk 2 71 ?_;refine Tk 3 72 ?_;refine Tk 4 73 ?_;refine Tc 5 (fun K hK=>?_);go_simp;refine Th hK ?_ (fun hHeld2=>?_)
      ·(try dsimp only);go_keep
      clear hK K hHeld;have hHeld:=hHeld2;clear hHeld2;refine Tk 6 1 ?_;refine wpAnyH_done (by kernel_rfl) ?_ _;clear hHeld s0 s1 s2 s3 m0 m1 m2 m3 t0 t1 t2 t3;obtain⟨W6,hW6⟩:∃ W,W=(((((W5.setCell ⟨p2,0,none⟩ (.int .i64 ya)).setCell ⟨p2,1,none⟩ (.int .i64 yn)).setCell ⟨p2,2,none⟩ (.string ys)).setCell ⟨p2,3,none⟩ (.int .i64 yv))).drew:=⟨_,rfl⟩
      have HKn:Hid (Kept [(⟨u1,o1,none⟩,.int .i64 xa),(⟨u1,o1+1,none⟩,.int .i64 xn),(⟨u1,o1+2,none⟩,.string xs),(⟨u1,o1+3,none⟩,.int .i64 xv),(⟨u2,o2,none⟩,.int .i64 ya),(⟨u2,o2+1,none⟩,.int .i64 yn),(⟨u2,o2+2,none⟩,.string ys),(⟨u2,o2+3,none⟩,.int .i64 yv),(⟨ba,2,none⟩,.slice Ca na ca9),(⟨bb,2,none⟩,.slice Cb nb cb9)] wr W6):=by
       unfold Hid;rw[hW6];exact (HKc.out.past4 (p:=p2) hpw2 (by simp[*]) _ _ _ _).drew
      have HNX:Hid (Kept [(⟨p2,0,none⟩,.int .i64 ya),(⟨p2,1,none⟩,.int .i64 yn),(⟨p2,2,none⟩,.string ys),(⟨p2,3,none⟩,.int .i64 yv)] wr W6):=by
       unfold Hid;rw[hW6];exact ((Kept.nil_of HKc.out.below).set4 (p:=p2) hpw2 (by simp) ⟨_,HPY.out.c0⟩ ⟨_,HPY.out.c1⟩ ⟨_,HPY.out.c2⟩ ⟨_,HPY.out.c3⟩ _ _ _ _).drew
      have HOX:Hid (Kept [(⟨p,0,none⟩,.int .i64 0),(⟨p,1,none⟩,.int .i64 0),(⟨p,2,none⟩,.string ⟨#[]⟩),(⟨p,3,none⟩,.int .i64 0)] wr W6):=by
       unfold Hid;rw[hW6];exact (HPX.out.past4 (p:=p2) hpw2 (by simp[*]) _ _ _ _).drew
      have HFN:Hid (Free p2 W6):=by unfold Hid;rw[hW6];exact (((((HFY.out.set _ _).set _ _).set _ _).set _ _)).drew
      have HFO:Hid (Free p W6):=by unfold Hid;rw[hW6];exact (((((HFX.out.set _ _).set _ _).set _ _).set _ _)).drew
      have HW6:=Lib.hid hW6;clear hW6 HKc HPY HPX HFY HFX;have HKc:=HKn;have HPY:=HNX;have HPX:=HOX;have HFY:=HFN;have HFX:=HFO;clear HKn HNX HOX HFN HFO;obtain⟨o9,ho9⟩:∃ o,stE ca cb (none) (some ⟨ya,yn,ys,yv⟩)=o:=⟨_,rfl⟩;have HO9:=Lib.hid ho9
      have HOUT:Hid (out++(o9.toList++mrg keyE ltD (stE ca cb) (⟨xa,xn,xs,xv⟩::a1) b1)=tot):=by
       have h1:=HOUT.out;rw[mrg_gt (key:=keyE) (lt:=ltD) (st:=stE ca cb) (x:=⟨xa,xn,xs,xv⟩) (y:=⟨ya,yn,ys,yv⟩) hcmp.1 hcmp.2 a1 b1,ho9]at h1;exact h1
      have HQT:Hid (q≤200000):=by
       have h1:=congrArg List.length HOUT.out;have h2:=HLT.out;have h3:=HNM.out;have h4:=HLO.out;rw[List.length_append]at h1;unfold Hid;omega
      have hst0:=stayE_right ca Ca na ca9 ba bb ya yn ys yv W6 HPA.out.1 hna HKc.out.t8.c0 ((HPA.out.2.1.below (HKW.out.below.trans (HKc.out.below.mono HKW.out.below.size))).more (HKW.out.below.trans (HKc.out.below.mono HKW.out.below.size)).size) HPA.out.2.2 (HGB.out.2 _ List.mem_cons_self)
      have HST:Hid (Calls Tryz.prog 180 #[.agg #[.int .i64 0,.int .i64 0,.string ⟨#[]⟩,.int .i64 0],.agg #[.int .i64 ya,.int .i64 yn,.string ys,.int .i64 yv],.pointer (some ⟨bb,0,none⟩),.pointer (some ⟨ba,0,none⟩)] W6 (StayE o9 W6)):=by
       unfold Hid;rw[← ho9];exact hst0
      clear hst0;clear ho9;rw[← HW6.out];obtain⟨k0,k1,k2,k3,-⟩:=HPX.out.cj;have k4:=HPY.out.c0;have k5:=HPY.out.c1;have k6:=HPY.out.c2;have k7:=HPY.out.c3;go_wp2_with fail;refine HST.out.mono ?_;rintro e v6 ⟨z,rfl,hz,hb6⟩;obtain⟨za,zn,zs,zv⟩:=z;have HB6:=Lib.hid (HKc.out.below.trans (hb6.mono HKc.out.below.size));have hs6:wr.heap.size≤v6.heap.size:=HB6.out.size;have hbz:Below v6.heap.size v6 (v6.alloc (.cells #[.int .i64 za,.int .i64 zn,.string zs,.int .i64 zv] 97)):=Dt.box_below _ _ _;have HB8:Hid (Below wr.heap.size wr (v6.alloc (.cells #[.int .i64 za,.int .i64 zn,.string zs,.int .i64 zv] 97))):=HB6.out.trans (hbz.mono hs6)
      have hs8:((v6.alloc (.cells #[.int .i64 za,.int .i64 zn,.string zs,.int .i64 zv] 97))).heap.size=v6.heap.size+1:=by simp
      clear hb6 hbz k0 k1 k2 k3 k4 k5 k6 k7 HKc HPX HPY HFX HFY
      cases o9 with
      | none=>
       have HOUT:Hid (out++mrg keyE ltD (stE ca cb) (⟨xa,xn,xs,xv⟩::a1) b1=tot):=HOUT.out;go_wp2_with fail;obtain⟨w9,hw9⟩:∃ W,W=(v6.alloc (.cells #[.int .i64 za,.int .i64 zn,.string zs,.int .i64 zv] 97)):=⟨_,rfl⟩;rw[← hw9]at HB8 ⊢;clear hw9 hs8;go_roundw
       case rel=>exact⟨_,b1,out,some ⟨u1,o1,none⟩,B1,Ax,n,m1,q,c,(d-1),cx,rfl,rfl,rfl,by omega,by omega,HLA.out,HRA.out.below (HB8.out.mono HKW.out.below.size),HGA.out,HB1.out.1,HB1.out.2.below (HB8.out.mono HKW.out.below.size),⟨(List.pairwise_cons.1 HGB.out.1).2,fun e he=>HGB.out.2 e (List.mem_cons_of_mem _ he)⟩,HOUT.out,HLO.out,own_later HOW.out HB8.out,HKW.out.low2 HLOW.out (HB8.out.mono HKW.out.below.size)⟩
       case measure=>simp[cntOf];omega
      | some z9=>
       obtain rfl:=hz z9 rfl;obtain⟨A6,c6,w6,r6,HO6,hb6⟩:=push_ent ((v6.alloc (.cells #[.int .i64 za,.int .i64 zn,.string zs,.int .i64 zv] 97))) w.heap.size (v6.heap.size+1) hs8 (own_later HOW.out HB8.out) HLO.out (Nat.le_trans HKW.out.below.size HB8.out.size) (⟨za,zn,zs,zv⟩:E) (by have:=HQT.out;omega);dsimp only at r6;have Hrun:=Lib.hid r6;have HO7:=Lib.hid HO6;have hww:=HKW.out.below.size;have HB7:Hid (Below w.heap.size wr w6):=(HB8.out.mono hww).trans hb6
       have HOUT:Hid ((out++[⟨za,zn,zs,zv⟩])++mrg keyE ltD (stE ca cb) (⟨xa,xn,xs,xv⟩::a1) b1=tot):=by
        have h1:=HOUT.out;rw[← List.append_assoc]at h1;exact h1
       have HLO:Hid ((out++[(⟨za,zn,zs,zv⟩:E)]).length=q+1):=by unfold Hid;rw[List.length_append,HLO.out];rfl
       clear r6 HO6 hb6 hs8 hww;go_wp2_with (at_builtin;refine Lib.wpList_append_run _ rfl _ _ _ _ rfl _ _ rfl rfl _ _ Hrun.out ?_);go_roundw
       case rel=>exact⟨_,b1,(out++[(⟨za,zn,zs,zv⟩:E)]),some ⟨u1,o1,none⟩,B1,A6,n,m1,(q+1),c,(d-1),c6,rfl,rfl,by go_num,by omega,by omega,HLA.out,HRA.out.below HB7.out,HGA.out,HB1.out.1,HB1.out.2.below HB7.out,⟨(List.pairwise_cons.1 HGB.out.1).2,fun e he=>HGB.out.2 e (List.mem_cons_of_mem _ he)⟩,HOUT.out,HLO.out,HO7.out,HKW.out.low2 HLOW.out HB7.out⟩
       case measure=>simp[cntOf];omega
     ·have hcmp:=And.intro hlt hgt
      have HKc:=Lib.hid ((((((((((((Kept.nil wr).cons_of HKW.out.c1).cons_of HKW.out.c0).cons_of y3).cons_of y2).cons_of y1).cons_of y0).cons_of x3).cons_of x2).cons_of x1).cons_of x0).drew);obtain⟨c9,hc9⟩:∃ z,Dt.cmpI xa xn ya yn=z:=⟨_,rfl⟩;have HC9:=Lib.hid hc9;have g1:decide (c9≤0)=true:=decide_eq_true (by have h1:¬Dt.cmpI xa xn ya yn<0:=fun h=>hcmp.1 (cmp_dot.1 h);have h2:¬0<Dt.cmpI xa xn ya yn:=fun h=>hcmp.2 (cmp_gt.1 h);omega);have g2:decide (0≤c9)=true:=decide_eq_true (by have h1:¬Dt.cmpI xa xn ya yn<0:=fun h=>hcmp.1 (cmp_dot.1 h);have h2:¬0<Dt.cmpI xa xn ya yn:=fun h=>hcmp.2 (cmp_gt.1 h);omega);clear hc9;go_wp2_with fail;refine wp_region_held_drew (S:=fun W=>W.cell? ⟨u1,o1,none⟩=some (.int .i64 xa)∧W.cell? ⟨u1,o1+1,none⟩=some (.int .i64 xn)∧W.cell? ⟨u1,o1+2,none⟩=some (.string xs)∧W.cell? ⟨u1,o1+3,none⟩=some (.int .i64 xv)∧W.cell? ⟨u2,o2,none⟩=some (.int .i64 ya)∧W.cell? ⟨u2,o2+1,none⟩=some (.int .i64 yn)∧W.cell? ⟨u2,o2+2,none⟩=some (.string ys)∧W.cell? ⟨u2,o2+3,none⟩=some (.int .i64 yv)) (by kernel_rfl) (by exact⟨HKc.out.c0,HKc.out.c1,HKc.out.c2,HKc.out.c3,HKc.out.c4,HKc.out.c5,HKc.out.c6,HKc.out.c7⟩) (fun hHeld=>?_)
      refine Tk 0 24 ?_;refine Tk 1 25 ?_;refine Tk 2 26 ?_;refine Tk 3 27 ?_;refine Tk 4 28 ?_;refine Tk 5 29 ?_;refine Tk 6 30 ?_;refine Tk 7 31 ?_;refine Tk 8 32 ?_;refine Tk 9 33 ?_;refine Tk 10 34 ?_;refine Tk 11 35 ?_;refine Tk 12 36 ?_;refine Tk 13 37 ?_;refine Tk 14 38 ?_;refine Tc 15 (fun K hK=>?_);go_simp;(go_at_call 178;refine (byDot_any ⟨xa,xn,xs,xv⟩ ⟨ya,yn,ys,yv⟩ _).mono ?_);rw[HC9.out];rintro e v1 ⟨rfl,hb9⟩;have HKc:=Lib.hid (HKc.out.later hb9);clear hb9;clear hHeld;refine Th hK ?_ (fun hHeld=>?_)
      ·exact⟨HKc.out.c0,HKc.out.c1,HKc.out.c2,HKc.out.c3,HKc.out.c4,HKc.out.c5,HKc.out.c6,HKc.out.c7⟩
      clear hK K;refine Tk 16 40 ?_;refine Tk 17 41 ?_;refine Tk 18 42 ?_;refine Tk 19 10 ?_;refine wpAnyH_done (by kernel_rfl) ?_ _;clear hHeld;go_wp2_with fail;have HKc:=Lib.hid (HKc.out.drew);refine wp_region_held_drew (S:=fun W=>W.cell? ⟨u1,o1,none⟩=some (.int .i64 xa)∧W.cell? ⟨u1,o1+1,none⟩=some (.int .i64 xn)∧W.cell? ⟨u1,o1+2,none⟩=some (.string xs)∧W.cell? ⟨u1,o1+3,none⟩=some (.int .i64 xv)∧W.cell? ⟨u2,o2,none⟩=some (.int .i64 ya)∧W.cell? ⟨u2,o2+1,none⟩=some (.int .i64 yn)∧W.cell? ⟨u2,o2+2,none⟩=some (.string ys)∧W.cell? ⟨u2,o2+3,none⟩=some (.int .i64 yv)) (by kernel_rfl) (by exact⟨HKc.out.c0,HKc.out.c1,HKc.out.c2,HKc.out.c3,HKc.out.c4,HKc.out.c5,HKc.out.c6,HKc.out.c7⟩) (fun hHeld=>?_);refine Tk 0 43 ?_;refine Tk 1 44 ?_;refine Tk 2 45 ?_;refine Tk 3 46 ?_;refine Tk 4 47 ?_;refine Tk 5 48 ?_;refine Tk 6 49 ?_
      refine Tk 7 50 ?_;refine Tk 8 51 ?_;refine Tk 9 52 ?_;refine Tk 10 53 ?_;refine Tk 11 54 ?_;refine Tk 12 55 ?_;refine Tk 13 56 ?_;refine Tk 14 57 ?_;refine Tc 15 (fun K hK=>?_);go_simp;(go_at_call 178;refine (byDot_any ⟨xa,xn,xs,xv⟩ ⟨ya,yn,ys,yv⟩ _).mono ?_);rw[HC9.out];rintro e v2 ⟨rfl,hb9⟩;have HKc:=Lib.hid (HKc.out.later hb9);clear hb9;clear hHeld;refine Th hK ?_ (fun hHeld=>?_)
      ·exact⟨HKc.out.c0,HKc.out.c1,HKc.out.c2,HKc.out.c3,HKc.out.c4,HKc.out.c5,HKc.out.c6,HKc.out.c7⟩
      clear hK K;refine Tk 16 59 ?_;refine Tk 17 60 ?_;refine Tk 18 61 ?_;refine Tk 19 11 ?_;refine wpAnyH_done (by kernel_rfl) ?_ _;clear hHeld;have hsz:=HKc.out.below.size;obtain⟨W5,p,p2,HW5,HP5,HQ5,HPX,HPY,HFX,HFY,hb5⟩:=boxE2 (v2);have HKc:=Lib.hid (HKc.out.later hb5);have HPX:=Lib.hid (HPX.out.rebase HKc.out.below);have HPY:=Lib.hid (HPY.out.rebase HKc.out.below)
      have hpw:wr.heap.size≤p:=by have:=HP5.out;omega
      have hpw2:wr.heap.size≤p2:=by have:=HQ5.out;omega
      have hpp:¬p=p2:=by have:=HQ5.out;omega
      have hpp2:¬p2=p:=by omega
      have hwwr:=HKW.out.below.size
      have hap:¬ba=p:=by have:=HBA.out;omega
      have hap2:¬ba=p2:=by have:=HBA.out;omega
      have hbp:¬bb=p:=by have:=HBB.out;omega
      have hbp2:¬bb=p2:=by have:=HBB.out;omega
      have h1p:¬u1=p:=by omega
      have h1p2:¬u1=p2:=by omega
      have h1q:¬p=u1:=by omega
      have h1q2:¬p2=u1:=by omega
      have h2p:¬u2=p:=by omega
      have h2p2:¬u2=p2:=by omega
      have h2q:¬p=u2:=by omega
      have h2q2:¬p2=u2:=by omega
      clear hsz hb5 hwwr;go_wp2_with fail;rw[← HP5.out,← HQ5.out,← HW5.out];obtain⟨s0,s1,s2,s3,-⟩:=HPX.out.cj;have m0:=HFX.out.2 0;have m1:=HFX.out.2 1;have m2:=HFX.out.2 2;have m3:=HFX.out.2 3;obtain⟨t0,t1,t2,t3,-⟩:=HKc.out.cj;refine wp_region_held_drew (S:=fun W=>W.cell? ⟨u1,o1,none⟩=some (.int .i64 xa)∧W.cell? ⟨u1,o1+1,none⟩=some (.int .i64 xn)∧W.cell? ⟨u1,o1+2,none⟩=some (.string xs)∧W.cell? ⟨u1,o1+3,none⟩=some (.int .i64 xv)) (by kernel_rfl) (by go_keep) (fun hHeld=>?_);refine Tk 0 63 ?_;refine Tk 1 64 ?_;refine Tk 2 65 ?_;refine Tk 3 66 ?_;refine Tk 4 67 ?_;refine Tc 5 (fun K hK=>?_);go_simp;refine Th hK ?_ (fun hHeld2=>?_)
      ·(try dsimp only);go_keep
      clear hK K hHeld;have hHeld:=hHeld2;clear hHeld2;refine Tk 6 0 ?_;refine wpAnyH_done (by kernel_rfl) ?_ _;clear hHeld s0 s1 s2 s3 m0 m1 m2 m3 t0 t1 t2 t3;obtain⟨W6,hW6⟩:∃ W,W=(((((W5.setCell ⟨p,0,none⟩ (.int .i64 xa)).setCell ⟨p,1,none⟩ (.int .i64 xn)).setCell ⟨p,2,none⟩ (.string xs)).setCell ⟨p,3,none⟩ (.int .i64 xv))).drew:=⟨_,rfl⟩
      have HKn:Hid (Kept [(⟨u1,o1,none⟩,.int .i64 xa),(⟨u1,o1+1,none⟩,.int .i64 xn),(⟨u1,o1+2,none⟩,.string xs),(⟨u1,o1+3,none⟩,.int .i64 xv),(⟨u2,o2,none⟩,.int .i64 ya),(⟨u2,o2+1,none⟩,.int .i64 yn),(⟨u2,o2+2,none⟩,.string ys),(⟨u2,o2+3,none⟩,.int .i64 yv),(⟨ba,2,none⟩,.slice Ca na ca9),(⟨bb,2,none⟩,.slice Cb nb cb9)] wr W6):=by
       unfold Hid;rw[hW6];exact (HKc.out.past4 (p:=p) hpw (by simp[*]) _ _ _ _).drew
      have HNX:Hid (Kept [(⟨p,0,none⟩,.int .i64 xa),(⟨p,1,none⟩,.int .i64 xn),(⟨p,2,none⟩,.string xs),(⟨p,3,none⟩,.int .i64 xv)] wr W6):=by
       unfold Hid;rw[hW6];exact ((Kept.nil_of HKc.out.below).set4 (p:=p) hpw (by simp) ⟨_,HPX.out.c0⟩ ⟨_,HPX.out.c1⟩ ⟨_,HPX.out.c2⟩ ⟨_,HPX.out.c3⟩ _ _ _ _).drew
      have HOX:Hid (Kept [(⟨p2,0,none⟩,.int .i64 0),(⟨p2,1,none⟩,.int .i64 0),(⟨p2,2,none⟩,.string ⟨#[]⟩),(⟨p2,3,none⟩,.int .i64 0)] wr W6):=by
       unfold Hid;rw[hW6];exact (HPY.out.past4 (p:=p) hpw (by simp[*]) _ _ _ _).drew
      have HFN:Hid (Free p W6):=by unfold Hid;rw[hW6];exact (((((HFX.out.set _ _).set _ _).set _ _).set _ _)).drew
      have HFO:Hid (Free p2 W6):=by unfold Hid;rw[hW6];exact (((((HFY.out.set _ _).set _ _).set _ _).set _ _)).drew
      have HW6:=Lib.hid hW6;clear hW6 HKc HPX HPY HFX HFY;have HKc:=HKn;have HPX:=HNX;have HPY:=HOX;have HFX:=HFN;have HFY:=HFO;clear HKn HNX HOX HFN HFO;rw[← HW6.out];go_wp2_with fail;obtain⟨s0,s1,s2,s3,-⟩:=HPY.out.cj;have m0:=HFY.out.2 0;have m1:=HFY.out.2 1;have m2:=HFY.out.2 2;have m3:=HFY.out.2 3;have t0:=HKc.out.c4;have t1:=HKc.out.c5;have t2:=HKc.out.c6;have t3:=HKc.out.c7;refine wp_region_held_drew (S:=fun W=>W.cell? ⟨u2,o2,none⟩=some (.int .i64 ya)∧W.cell? ⟨u2,o2+1,none⟩=some (.int .i64 yn)∧W.cell? ⟨u2,o2+2,none⟩=some (.string ys)∧W.cell? ⟨u2,o2+3,none⟩=some (.int .i64 yv)) (by kernel_rfl) (by go_keep) (fun hHeld=>?_);refine Tk 0 69 ?_;refine Tk 1 70 ?_;refine Tk 2 71 ?_;refine Tk 3 72 ?_;refine Tk 4 73 ?_;refine Tc 5 (fun K hK=>?_);go_simp;refine Th hK ?_ (fun hHeld2=>?_)
      ·(try dsimp only);go_keep
      clear hK K hHeld;have hHeld:=hHeld2;clear hHeld2;refine Tk 6 1 ?_;refine wpAnyH_done (by kernel_rfl) ?_ _;clear hHeld s0 s1 s2 s3 m0 m1 m2 m3 t0 t1 t2 t3;obtain⟨W7,hW7⟩:∃ W,W=(((((W6.setCell ⟨p2,0,none⟩ (.int .i64 ya)).setCell ⟨p2,1,none⟩ (.int .i64 yn)).setCell ⟨p2,2,none⟩ (.string ys)).setCell ⟨p2,3,none⟩ (.int .i64 yv))).drew:=⟨_,rfl⟩
      have HKn:Hid (Kept [(⟨u1,o1,none⟩,.int .i64 xa),(⟨u1,o1+1,none⟩,.int .i64 xn),(⟨u1,o1+2,none⟩,.string xs),(⟨u1,o1+3,none⟩,.int .i64 xv),(⟨u2,o2,none⟩,.int .i64 ya),(⟨u2,o2+1,none⟩,.int .i64 yn),(⟨u2,o2+2,none⟩,.string ys),(⟨u2,o2+3,none⟩,.int .i64 yv),(⟨ba,2,none⟩,.slice Ca na ca9),(⟨bb,2,none⟩,.slice Cb nb cb9)] wr W7):=by
       unfold Hid;rw[hW7];exact (HKc.out.past4 (p:=p2) hpw2 (by simp[*]) _ _ _ _).drew
      have HNX:Hid (Kept [(⟨p2,0,none⟩,.int .i64 ya),(⟨p2,1,none⟩,.int .i64 yn),(⟨p2,2,none⟩,.string ys),(⟨p2,3,none⟩,.int .i64 yv)] wr W7):=by
       unfold Hid;rw[hW7];exact ((Kept.nil_of HKc.out.below).set4 (p:=p2) hpw2 (by simp) ⟨_,HPY.out.c0⟩ ⟨_,HPY.out.c1⟩ ⟨_,HPY.out.c2⟩ ⟨_,HPY.out.c3⟩ _ _ _ _).drew
      have HOX:Hid (Kept [(⟨p,0,none⟩,.int .i64 xa),(⟨p,1,none⟩,.int .i64 xn),(⟨p,2,none⟩,.string xs),(⟨p,3,none⟩,.int .i64 xv)] wr W7):=by
       unfold Hid;rw[hW7];exact (HPX.out.past4 (p:=p2) hpw2 (by simp[*]) _ _ _ _).drew
      have HFN:Hid (Free p2 W7):=by unfold Hid;rw[hW7];exact (((((HFY.out.set _ _).set _ _).set _ _).set _ _)).drew
      have HFO:Hid (Free p W7):=by unfold Hid;rw[hW7];exact (((((HFX.out.set _ _).set _ _).set _ _).set _ _)).drew
      have HW7:=Lib.hid hW7;clear hW7 HKc HPY HPX HFY HFX;have HKc:=HKn;have HPY:=HNX;have HPX:=HOX;have HFY:=HFN;have HFX:=HFO;clear HKn HNX HOX HFN HFO;obtain⟨o9,ho9⟩:∃ o,stE ca cb (some ⟨xa,xn,xs,xv⟩) (some ⟨ya,yn,ys,yv⟩)=o:=⟨_,rfl⟩;have HO9:=Lib.hid ho9
      have HOUT:Hid (out++(o9.toList++mrg keyE ltD (stE ca cb) a1 b1)=tot):=by
       have h1:=HOUT.out;rw[mrg_eq (key:=keyE) (lt:=ltD) (st:=stE ca cb) (x:=⟨xa,xn,xs,xv⟩) (y:=⟨ya,yn,ys,yv⟩) hcmp.1 hcmp.2 a1 b1,ho9]at h1;exact h1
      have HQT:Hid (q≤200000):=by
       have h1:=congrArg List.length HOUT.out;have h2:=HLT.out;have h3:=HNM.out;have h4:=HLO.out;rw[List.length_append]at h1;unfold Hid;omega
      have hst0:=stayE_both ba bb xa xn xs xv ya yn ys yv W7 (HGA.out.2 _ List.mem_cons_self) (HGB.out.2 _ List.mem_cons_self)
      have HST:Hid (Calls Tryz.prog 180 #[.agg #[.int .i64 xa,.int .i64 xn,.string xs,.int .i64 xv],.agg #[.int .i64 ya,.int .i64 yn,.string ys,.int .i64 yv],.pointer (some ⟨bb,0,none⟩),.pointer (some ⟨ba,0,none⟩)] W7 (StayE o9 W7)):=by
       unfold Hid;rw[← ho9];exact hst0
      clear hst0;clear ho9;rw[← HW7.out];obtain⟨k0,k1,k2,k3,-⟩:=HPX.out.cj;have k4:=HPY.out.c0;have k5:=HPY.out.c1;have k6:=HPY.out.c2;have k7:=HPY.out.c3;go_wp2_with fail;refine HST.out.mono ?_;rintro e v6 ⟨z,rfl,hz,hb6⟩;obtain⟨za,zn,zs,zv⟩:=z;have HB6:=Lib.hid (HKc.out.below.trans (hb6.mono HKc.out.below.size));have hs6:wr.heap.size≤v6.heap.size:=HB6.out.size;have hbz:Below v6.heap.size v6 (v6.alloc (.cells #[.int .i64 za,.int .i64 zn,.string zs,.int .i64 zv] 97)):=Dt.box_below _ _ _;have HB8:Hid (Below wr.heap.size wr (v6.alloc (.cells #[.int .i64 za,.int .i64 zn,.string zs,.int .i64 zv] 97))):=HB6.out.trans (hbz.mono hs6)
      have hs8:((v6.alloc (.cells #[.int .i64 za,.int .i64 zn,.string zs,.int .i64 zv] 97))).heap.size=v6.heap.size+1:=by simp
      clear hb6 hbz k0 k1 k2 k3 k4 k5 k6 k7 HKc HPX HPY HFX HFY
      cases o9 with
      | none=>
       have HOUT:Hid (out++mrg keyE ltD (stE ca cb) a1 b1=tot):=HOUT.out;go_wp2_with fail;obtain⟨w9,hw9⟩:∃ W,W=(v6.alloc (.cells #[.int .i64 za,.int .i64 zn,.string zs,.int .i64 zv] 97)):=⟨_,rfl⟩;rw[← hw9]at HB8 ⊢;clear hw9 hs8;go_roundw
       case rel=>exact⟨a1,b1,out,A1,B1,Ax,n1,m1,q,(c-1),(d-1),cx,rfl,rfl,rfl,by omega,by omega,HA1.out.1,HA1.out.2.below (HB8.out.mono HKW.out.below.size),⟨(List.pairwise_cons.1 HGA.out.1).2,fun e he=>HGA.out.2 e (List.mem_cons_of_mem _ he)⟩,HB1.out.1,HB1.out.2.below (HB8.out.mono HKW.out.below.size),⟨(List.pairwise_cons.1 HGB.out.1).2,fun e he=>HGB.out.2 e (List.mem_cons_of_mem _ he)⟩,HOUT.out,HLO.out,own_later HOW.out HB8.out,HKW.out.low2 HLOW.out (HB8.out.mono HKW.out.below.size)⟩
       case measure=>simp[cntOf];omega
      | some z9=>
       obtain rfl:=hz z9 rfl;obtain⟨A6,c6,w6,r6,HO6,hb6⟩:=push_ent ((v6.alloc (.cells #[.int .i64 za,.int .i64 zn,.string zs,.int .i64 zv] 97))) w.heap.size (v6.heap.size+1) hs8 (own_later HOW.out HB8.out) HLO.out (Nat.le_trans HKW.out.below.size HB8.out.size) (⟨za,zn,zs,zv⟩:E) (by have:=HQT.out;omega);dsimp only at r6;have Hrun:=Lib.hid r6;have HO7:=Lib.hid HO6;have hww:=HKW.out.below.size;have HB7:Hid (Below w.heap.size wr w6):=(HB8.out.mono hww).trans hb6
       have HOUT:Hid ((out++[⟨za,zn,zs,zv⟩])++mrg keyE ltD (stE ca cb) a1 b1=tot):=by
        have h1:=HOUT.out;rw[← List.append_assoc]at h1;exact h1
       have HLO:Hid ((out++[(⟨za,zn,zs,zv⟩:E)]).length=q+1):=by unfold Hid;rw[List.length_append,HLO.out];rfl
       clear r6 HO6 hb6 hs8 hww;go_wp2_with (at_builtin;refine Lib.wpList_append_run _ rfl _ _ _ _ rfl _ _ rfl rfl _ _ Hrun.out ?_);go_roundw
       case rel=>exact⟨a1,b1,(out++[(⟨za,zn,zs,zv⟩:E)]),A1,B1,A6,n1,m1,(q+1),(c-1),(d-1),c6,rfl,rfl,by go_num,by omega,by omega,HA1.out.1,HA1.out.2.below HB7.out,⟨(List.pairwise_cons.1 HGA.out.1).2,fun e he=>HGA.out.2 e (List.mem_cons_of_mem _ he)⟩,HB1.out.1,HB1.out.2.below HB7.out,⟨(List.pairwise_cons.1 HGB.out.1).2,fun e he=>HGB.out.2 e (List.mem_cons_of_mem _ he)⟩,HOUT.out,HLO.out,HO7.out,HKW.out.low2 HLOW.out HB7.out⟩
       case measure=>simp[cntOf];omega
   ·obtain rfl:m=0:=by omega
    obtain rfl:b=[]:=List.length_eq_zero_iff.1 HLB.out
    obtain⟨x,a1,rfl⟩:∃ x l,a=x::l:=by
     cases a with
     | nil=>have h1:=HLA.out;simp at h1;omega
     | cons x l=>exact⟨x,l,rfl⟩
    obtain⟨xa,xn,xs,xv⟩:=x;obtain⟨u1,o1,rfl,hu1,hc⟩:=rd_elem entC_len HRA.out (m:=0) (by omega)
    have x0:wr.cell? ⟨u1,o1,none⟩=some (.int .i64 xa):=by have:=hc 0 (by simp) 0 _ rfl;simpa using this
    have x1:wr.cell? ⟨u1,o1+1,none⟩=some (.int .i64 xn):=by have:=hc 0 (by simp) 1 _ rfl;simpa using this
    have x2:wr.cell? ⟨u1,o1+2,none⟩=some (.string xs):=by have:=hc 0 (by simp) 2 _ rfl;simpa using this
    have x3:wr.cell? ⟨u1,o1+3,none⟩=some (.int .i64 xv):=by have:=hc 0 (by simp) 3 _ rfl;simpa using this
    have hwu1:u1<wr.heap.size:=World.block_lt_of_cell? wr _ x0;obtain⟨n1,hn1⟩:∃ z,z=n-1:=⟨_,rfl⟩
    obtain⟨A1,hA1⟩:∃ z,z=(if c=1 then some (⟨u1,o1,none⟩:Addr)else (some (⟨u1,o1,none⟩:Addr)).map (·.add (1*4))):=⟨_,rfl⟩
    have hcutx:∀ W,(Instr.slice 32 (.slice (some ⟨u1,o1,none⟩) n c) (some (.int .i64 1)) none none).run Tryz.prog W = .ok (.slice A1 n1 (c-1)) W:=fun W=>by
     have h1:=run_cut_from (P:=Tryz.prog) 32 97 4 Tryz.underlying32 hi0 hz1 (some ⟨u1,o1,none⟩) n c 1 (by omega) W;rw[← hA1,← hn1]at h1;exact h1
    have HA1:Hid (a1.length=n1∧Rd wr w.heap.size 4 A1 n1 (c-1) (entsC a1)):=by
     have h1:=HRA.out.from_ (i:=1) (by omega);have h2:=HLA.out;refine⟨by rw[hn1];simp at h2;omega,?_⟩;rw[hA1,hn1];exact h1
    have fna:((n:Int)==0)=false:=by rw[beq_eq_false_iff_ne];omega
    have fnb:decide ((0:Int)<(n:Int))=true:=decide_eq_true (by omega)
    have hnn1:n1+1=n:=by omega
    clear hc hn1 hA1;have HKc:=Lib.hid ((((((((Kept.nil wr).cons_of HKW.out.c1).cons_of HKW.out.c0).cons_of x3).cons_of x2).cons_of x1).cons_of x0).drew);go_wp2_with fail;refine wp_region_held_drew (S:=fun W=>W.cell? ⟨u1,o1,none⟩=some (.int .i64 xa)∧W.cell? ⟨u1,o1+1,none⟩=some (.int .i64 xn)∧W.cell? ⟨u1,o1+2,none⟩=some (.string xs)∧W.cell? ⟨u1,o1+3,none⟩=some (.int .i64 xv)) (by kernel_rfl) (by exact⟨HKc.out.c0,HKc.out.c1,HKc.out.c2,HKc.out.c3⟩) (fun hHeld=>?_);refine Tk 0 24 ?_;refine Tk 1 25 ?_;refine Tk 2 26 ?_;refine Tk 3 27 ?_;refine Tn 4 28 ?_;refine Tn 5 29 ?_;refine Tn 6 30 ?_;refine Tn 7 31 ?_;refine Tn 8 32 ?_;refine Tn 9 33 ?_;refine Tn 10 34 ?_;refine Tn 11 35 ?_;refine Tn 12 36 ?_;refine Tn 13 37 ?_;refine Tn 14 38 ?_;refine Tn 15 39 ?_;refine Tn 16 40 ?_;refine Tn 17 41 ?_;refine Tk 18 42 ?_;refine Tk 19 10 ?_;refine wpAnyH_done (by kernel_rfl) ?_ _
    clear hHeld;go_wp2_with fail;have HKc:=Lib.hid (HKc.out.drew);refine wp_region_held_drew (S:=fun W=>W.cell? ⟨u1,o1,none⟩=some (.int .i64 xa)∧W.cell? ⟨u1,o1+1,none⟩=some (.int .i64 xn)∧W.cell? ⟨u1,o1+2,none⟩=some (.string xs)∧W.cell? ⟨u1,o1+3,none⟩=some (.int .i64 xv)) (by kernel_rfl) (by exact⟨HKc.out.c0,HKc.out.c1,HKc.out.c2,HKc.out.c3⟩) (fun hHeld=>?_);refine Tk 0 43 ?_;refine Tk 1 44 ?_;refine Tk 2 45 ?_;refine Tk 3 46 ?_;refine Tk 4 47 ?_;refine Tk 5 48 ?_;refine Tk 6 49 ?_;refine Tk 7 50 ?_;refine Tn 8 51 ?_;refine Tn 9 52 ?_;refine Tn 10 53 ?_;refine Tn 11 54 ?_;refine Tn 12 55 ?_;refine Tn 13 56 ?_;refine Tn 14 57 ?_;refine Tn 15 58 ?_;refine Tn 16 59 ?_;refine Tk 17 60 ?_;refine Tk 18 61 ?_;refine Tk 19 11 ?_;refine wpAnyH_done (by kernel_rfl) ?_ _;clear hHeld;have hsz:=HKc.out.below.size;obtain⟨W5,p,p2,HW5,HP5,HQ5,HPX,HPY,HFX,HFY,hb5⟩:=boxE2 (wr.drew.drew)
    have HKc:=Lib.hid (HKc.out.later hb5);have HPX:=Lib.hid (HPX.out.rebase HKc.out.below);have HPY:=Lib.hid (HPY.out.rebase HKc.out.below);have HW5:Hid (W5=((wr.alloc (.cells #[.int .i64 0,.int .i64 0,.string ⟨#[]⟩,.int .i64 0] 97)).alloc (.cells #[.int .i64 0,.int .i64 0,.string ⟨#[]⟩,.int .i64 0] 97)).drew.drew):=HW5.out;have HP5:Hid (p=wr.heap.size):=HP5.out
    have hpw:wr.heap.size≤p:=by have:=HP5.out;omega
    have hpw2:wr.heap.size≤p2:=by have:=HQ5.out;omega
    have hpp:¬p=p2:=by have:=HQ5.out;omega
    have hpp2:¬p2=p:=by omega
    have hwwr:=HKW.out.below.size
    have hap:¬ba=p:=by have:=HBA.out;omega
    have hap2:¬ba=p2:=by have:=HBA.out;omega
    have hbp:¬bb=p:=by have:=HBB.out;omega
    have hbp2:¬bb=p2:=by have:=HBB.out;omega
    have h1p:¬u1=p:=by omega
    have h1p2:¬u1=p2:=by omega
    have h1q:¬p=u1:=by omega
    have h1q2:¬p2=u1:=by omega
    clear hsz hb5 hwwr;go_wp2_with fail;rw[← HP5.out,← HQ5.out,← HW5.out];obtain⟨s0,s1,s2,s3,-⟩:=HPX.out.cj;have m0:=HFX.out.2 0;have m1:=HFX.out.2 1;have m2:=HFX.out.2 2;have m3:=HFX.out.2 3;obtain⟨t0,t1,t2,t3,-⟩:=HKc.out.cj;refine wp_region_held_drew (S:=fun W=>W.cell? ⟨u1,o1,none⟩=some (.int .i64 xa)∧W.cell? ⟨u1,o1+1,none⟩=some (.int .i64 xn)∧W.cell? ⟨u1,o1+2,none⟩=some (.string xs)∧W.cell? ⟨u1,o1+3,none⟩=some (.int .i64 xv)) (by kernel_rfl) (by go_keep) (fun hHeld=>?_);refine Tk 0 63 ?_;refine Tk 1 64 ?_;refine Tk 2 65 ?_;refine Tk 3 66 ?_;refine Tk 4 67 ?_;refine Tc 5 (fun K hK=>?_);go_simp;refine Th hK ?_ (fun hHeld2=>?_)
    ·(try dsimp only);go_keep
    clear hK K hHeld;have hHeld:=hHeld2;clear hHeld2;refine Tk 6 0 ?_;refine wpAnyH_done (by kernel_rfl) ?_ _;clear hHeld s0 s1 s2 s3 m0 m1 m2 m3 t0 t1 t2 t3;obtain⟨W6,hW6⟩:∃ W,W=(((((W5.setCell ⟨p,0,none⟩ (.int .i64 xa)).setCell ⟨p,1,none⟩ (.int .i64 xn)).setCell ⟨p,2,none⟩ (.string xs)).setCell ⟨p,3,none⟩ (.int .i64 xv))).drew:=⟨_,rfl⟩
    have HKn:Hid (Kept [(⟨u1,o1,none⟩,.int .i64 xa),(⟨u1,o1+1,none⟩,.int .i64 xn),(⟨u1,o1+2,none⟩,.string xs),(⟨u1,o1+3,none⟩,.int .i64 xv),(⟨ba,2,none⟩,.slice Ca na ca9),(⟨bb,2,none⟩,.slice Cb nb cb9)] wr W6):=by
     unfold Hid;rw[hW6];exact (HKc.out.past4 (p:=p) hpw (by simp[*]) _ _ _ _).drew
    have HNX:Hid (Kept [(⟨p,0,none⟩,.int .i64 xa),(⟨p,1,none⟩,.int .i64 xn),(⟨p,2,none⟩,.string xs),(⟨p,3,none⟩,.int .i64 xv)] wr W6):=by
     unfold Hid;rw[hW6];exact ((Kept.nil_of HKc.out.below).set4 (p:=p) hpw (by simp) ⟨_,HPX.out.c0⟩ ⟨_,HPX.out.c1⟩ ⟨_,HPX.out.c2⟩ ⟨_,HPX.out.c3⟩ _ _ _ _).drew
    have HOX:Hid (Kept [(⟨p2,0,none⟩,.int .i64 0),(⟨p2,1,none⟩,.int .i64 0),(⟨p2,2,none⟩,.string ⟨#[]⟩),(⟨p2,3,none⟩,.int .i64 0)] wr W6):=by
     unfold Hid;rw[hW6];exact (HPY.out.past4 (p:=p) hpw (by simp[*]) _ _ _ _).drew
    have HFN:Hid (Free p W6):=by unfold Hid;rw[hW6];exact (((((HFX.out.set _ _).set _ _).set _ _).set _ _)).drew
    have HFO:Hid (Free p2 W6):=by unfold Hid;rw[hW6];exact (((((HFY.out.set _ _).set _ _).set _ _).set _ _)).drew
    have HW6:=Lib.hid hW6;clear hW6 HKc HPX HPY HFX HFY;have HKc:=HKn;have HPX:=HNX;have HPY:=HOX;have HFX:=HFN;have HFY:=HFO;clear HKn HNX HOX HFN HFO;obtain⟨o9,ho9⟩:∃ o,stE ca cb (some ⟨xa,xn,xs,xv⟩) (none)=o:=⟨_,rfl⟩;have HO9:=Lib.hid ho9
    have HOUT:Hid (out++(o9.toList++mrg keyE ltD (stE ca cb) a1 [])=tot):=by
     have h1:=HOUT.out;rw[mrg_left (key:=keyE) (lt:=ltD) (st:=stE ca cb) (⟨xa,xn,xs,xv⟩:E) a1,ho9]at h1;exact h1
    have HQT:Hid (q≤200000):=by
     have h1:=congrArg List.length HOUT.out;have h2:=HLT.out;have h3:=HNM.out;have h4:=HLO.out;rw[List.length_append]at h1;unfold Hid;omega
    have hst0:=stayE_left cb Cb nb cb9 ba bb xa xn xs xv W6 HPB.out.1 hnb HKc.out.c5 ((HPB.out.2.1.below (HKW.out.below.trans (HKc.out.below.mono HKW.out.below.size))).more (HKW.out.below.trans (HKc.out.below.mono HKW.out.below.size)).size) HPB.out.2.2
    have HST:Hid (Calls Tryz.prog 180 #[.agg #[.int .i64 xa,.int .i64 xn,.string xs,.int .i64 xv],.agg #[.int .i64 0,.int .i64 0,.string ⟨#[]⟩,.int .i64 0],.pointer (some ⟨bb,0,none⟩),.pointer (some ⟨ba,0,none⟩)] W6 (StayE o9 W6)):=by
     unfold Hid;rw[← ho9];exact hst0
    clear hst0;clear ho9;rw[← HW6.out];obtain⟨k0,k1,k2,k3,-⟩:=HPX.out.cj;have k4:=HPY.out.c0;have k5:=HPY.out.c1;have k6:=HPY.out.c2;have k7:=HPY.out.c3;go_wp2_with fail;refine HST.out.mono ?_;rintro e v6 ⟨z,rfl,hz,hb6⟩;obtain⟨za,zn,zs,zv⟩:=z;have HB6:=Lib.hid (HKc.out.below.trans (hb6.mono HKc.out.below.size));have hs6:wr.heap.size≤v6.heap.size:=HB6.out.size;have hbz:Below v6.heap.size v6 (v6.alloc (.cells #[.int .i64 za,.int .i64 zn,.string zs,.int .i64 zv] 97)):=Dt.box_below _ _ _;have HB8:Hid (Below wr.heap.size wr (v6.alloc (.cells #[.int .i64 za,.int .i64 zn,.string zs,.int .i64 zv] 97))):=HB6.out.trans (hbz.mono hs6)
    have hs8:((v6.alloc (.cells #[.int .i64 za,.int .i64 zn,.string zs,.int .i64 zv] 97))).heap.size=v6.heap.size+1:=by simp
    clear hb6 hbz k0 k1 k2 k3 k4 k5 k6 k7 HKc HPX HPY HFX HFY
    cases o9 with
    | none=>
     have HOUT:Hid (out++mrg keyE ltD (stE ca cb) a1 []=tot):=HOUT.out;go_wp2_with fail;obtain⟨w9,hw9⟩:∃ W,W=(v6.alloc (.cells #[.int .i64 za,.int .i64 zn,.string zs,.int .i64 zv] 97)):=⟨_,rfl⟩;rw[← hw9]at HB8 ⊢;clear hw9 hs8;go_roundw
     case rel=>exact⟨a1,[],out,A1,B,Ax,n1,0,q,(c-1),d,cx,rfl,rfl,rfl,by omega,by omega,HA1.out.1,HA1.out.2.below (HB8.out.mono HKW.out.below.size),⟨(List.pairwise_cons.1 HGA.out.1).2,fun e he=>HGA.out.2 e (List.mem_cons_of_mem _ he)⟩,rfl,HRB.out.below (HB8.out.mono HKW.out.below.size),HGB.out,HOUT.out,HLO.out,own_later HOW.out HB8.out,HKW.out.low2 HLOW.out (HB8.out.mono HKW.out.below.size)⟩
     case measure=>simp[cntOf];omega
    | some z9=>
     obtain rfl:=hz z9 rfl;obtain⟨A6,c6,w6,r6,HO6,hb6⟩:=push_ent ((v6.alloc (.cells #[.int .i64 za,.int .i64 zn,.string zs,.int .i64 zv] 97))) w.heap.size (v6.heap.size+1) hs8 (own_later HOW.out HB8.out) HLO.out (Nat.le_trans HKW.out.below.size HB8.out.size) (⟨za,zn,zs,zv⟩:E) (by have:=HQT.out;omega);dsimp only at r6;have Hrun:=Lib.hid r6;have HO7:=Lib.hid HO6;have hww:=HKW.out.below.size;have HB7:Hid (Below w.heap.size wr w6):=(HB8.out.mono hww).trans hb6
     have HOUT:Hid ((out++[⟨za,zn,zs,zv⟩])++mrg keyE ltD (stE ca cb) a1 []=tot):=by
      have h1:=HOUT.out;rw[← List.append_assoc]at h1;exact h1
     have HLO:Hid ((out++[(⟨za,zn,zs,zv⟩:E)]).length=q+1):=by unfold Hid;rw[List.length_append,HLO.out];rfl
     clear r6 HO6 hb6 hs8 hww;go_wp2_with (at_builtin;refine Lib.wpList_append_run _ rfl _ _ _ _ rfl _ _ rfl rfl _ _ Hrun.out ?_);go_roundw
     case rel=>exact⟨a1,[],(out++[(⟨za,zn,zs,zv⟩:E)]),A1,B,A6,n1,0,(q+1),(c-1),d,c6,rfl,rfl,by go_num,by omega,by omega,HA1.out.1,HA1.out.2.below HB7.out,⟨(List.pairwise_cons.1 HGA.out.1).2,fun e he=>HGA.out.2 e (List.mem_cons_of_mem _ he)⟩,rfl,HRB.out.below HB7.out,HGB.out,HOUT.out,HLO.out,HO7.out,HKW.out.low2 HLOW.out HB7.out⟩
     case measure=>simp[cntOf];omega
  ·by_cases hm0:0<m
   ·obtain rfl:n=0:=by omega
    obtain rfl:a=[]:=List.length_eq_zero_iff.1 HLA.out
    obtain⟨y,b1,rfl⟩:∃ x l,b=x::l:=by
     cases b with
     | nil=>have h1:=HLB.out;simp at h1;omega
     | cons x l=>exact⟨x,l,rfl⟩
    obtain⟨ya,yn,ys,yv⟩:=y;obtain⟨u2,o2,rfl,hu2,hc⟩:=rd_elem entC_len HRB.out (m:=0) (by omega)
    have y0:wr.cell? ⟨u2,o2,none⟩=some (.int .i64 ya):=by have:=hc 0 (by simp) 0 _ rfl;simpa using this
    have y1:wr.cell? ⟨u2,o2+1,none⟩=some (.int .i64 yn):=by have:=hc 0 (by simp) 1 _ rfl;simpa using this
    have y2:wr.cell? ⟨u2,o2+2,none⟩=some (.string ys):=by have:=hc 0 (by simp) 2 _ rfl;simpa using this
    have y3:wr.cell? ⟨u2,o2+3,none⟩=some (.int .i64 yv):=by have:=hc 0 (by simp) 3 _ rfl;simpa using this
    have hwu2:u2<wr.heap.size:=World.block_lt_of_cell? wr _ y0;obtain⟨m1,hm1⟩:∃ z,z=m-1:=⟨_,rfl⟩
    obtain⟨B1,hB1⟩:∃ z,z=(if d=1 then some (⟨u2,o2,none⟩:Addr)else (some (⟨u2,o2,none⟩:Addr)).map (·.add (1*4))):=⟨_,rfl⟩
    have hcuty:∀ W,(Instr.slice 32 (.slice (some ⟨u2,o2,none⟩) m d) (some (.int .i64 1)) none none).run Tryz.prog W = .ok (.slice B1 m1 (d-1)) W:=fun W=>by
     have h1:=run_cut_from (P:=Tryz.prog) 32 97 4 Tryz.underlying32 hi0 hz1 (some ⟨u2,o2,none⟩) m d 1 (by omega) W;rw[← hB1,← hm1]at h1;exact h1
    have HB1:Hid (b1.length=m1∧Rd wr w.heap.size 4 B1 m1 (d-1) (entsC b1)):=by
     have h1:=HRB.out.from_ (i:=1) (by omega);have h2:=HLB.out;refine⟨by rw[hm1];simp at h2;omega,?_⟩;rw[hB1,hm1];exact h1
    have fma:((m:Int)==0)=false:=by rw[beq_eq_false_iff_ne];omega
    have fmb:decide ((0:Int)<(m:Int))=true:=decide_eq_true (by omega)
    have hnm1:m1+1=m:=by omega
    clear hc hm1 hB1;have HKc:=Lib.hid ((((((((Kept.nil wr).cons_of HKW.out.c1).cons_of HKW.out.c0).cons_of y3).cons_of y2).cons_of y1).cons_of y0).drew);go_wp2_with fail;refine wp_region_held_drew (S:=fun W=>W.cell? ⟨u2,o2,none⟩=some (.int .i64 ya)∧W.cell? ⟨u2,o2+1,none⟩=some (.int .i64 yn)∧W.cell? ⟨u2,o2+2,none⟩=some (.string ys)∧W.cell? ⟨u2,o2+3,none⟩=some (.int .i64 yv)) (by kernel_rfl) (by exact⟨HKc.out.c0,HKc.out.c1,HKc.out.c2,HKc.out.c3⟩) (fun hHeld=>?_);refine Tk 0 24 ?_;refine Tk 1 25 ?_;refine Tk 2 26 ?_;refine Tk 3 27 ?_;refine Tk 4 28 ?_;refine Tk 5 29 ?_;refine Tk 6 30 ?_;refine Tk 7 31 ?_;refine Tn 8 32 ?_;refine Tn 9 33 ?_;refine Tn 10 34 ?_;refine Tn 11 35 ?_;refine Tn 12 36 ?_;refine Tn 13 37 ?_;refine Tn 14 38 ?_;refine Tn 15 39 ?_;refine Tn 16 40 ?_;refine Tk 17 41 ?_;refine Tk 18 42 ?_;refine Tk 19 10 ?_;refine wpAnyH_done (by kernel_rfl) ?_ _
    clear hHeld;go_wp2_with fail;have HKc:=Lib.hid (HKc.out.drew);refine wp_region_held_drew (S:=fun W=>W.cell? ⟨u2,o2,none⟩=some (.int .i64 ya)∧W.cell? ⟨u2,o2+1,none⟩=some (.int .i64 yn)∧W.cell? ⟨u2,o2+2,none⟩=some (.string ys)∧W.cell? ⟨u2,o2+3,none⟩=some (.int .i64 yv)) (by kernel_rfl) (by exact⟨HKc.out.c0,HKc.out.c1,HKc.out.c2,HKc.out.c3⟩) (fun hHeld=>?_);refine Tk 0 43 ?_;refine Tk 1 44 ?_;refine Tk 2 45 ?_;refine Tk 3 46 ?_;refine Tn 4 47 ?_;refine Tn 5 48 ?_;refine Tn 6 49 ?_;refine Tn 7 50 ?_;refine Tn 8 51 ?_;refine Tn 9 52 ?_;refine Tn 10 53 ?_;refine Tn 11 54 ?_;refine Tn 12 55 ?_;refine Tn 13 56 ?_;refine Tn 14 57 ?_;refine Tn 15 58 ?_;refine Tn 16 59 ?_;refine Tn 17 60 ?_;refine Tk 18 61 ?_;refine Tk 19 11 ?_;refine wpAnyH_done (by kernel_rfl) ?_ _;clear hHeld;have hsz:=HKc.out.below.size;obtain⟨W5,p,p2,HW5,HP5,HQ5,HPX,HPY,HFX,HFY,hb5⟩:=boxE2 (wr.drew.drew)
    have HKc:=Lib.hid (HKc.out.later hb5);have HPX:=Lib.hid (HPX.out.rebase HKc.out.below);have HPY:=Lib.hid (HPY.out.rebase HKc.out.below);have HW5:Hid (W5=((wr.alloc (.cells #[.int .i64 0,.int .i64 0,.string ⟨#[]⟩,.int .i64 0] 97)).alloc (.cells #[.int .i64 0,.int .i64 0,.string ⟨#[]⟩,.int .i64 0] 97)).drew.drew):=HW5.out;have HP5:Hid (p=wr.heap.size):=HP5.out
    have hpw:wr.heap.size≤p:=by have:=HP5.out;omega
    have hpw2:wr.heap.size≤p2:=by have:=HQ5.out;omega
    have hpp:¬p=p2:=by have:=HQ5.out;omega
    have hpp2:¬p2=p:=by omega
    have hwwr:=HKW.out.below.size
    have hap:¬ba=p:=by have:=HBA.out;omega
    have hap2:¬ba=p2:=by have:=HBA.out;omega
    have hbp:¬bb=p:=by have:=HBB.out;omega
    have hbp2:¬bb=p2:=by have:=HBB.out;omega
    have h2p:¬u2=p:=by omega
    have h2p2:¬u2=p2:=by omega
    have h2q:¬p=u2:=by omega
    have h2q2:¬p2=u2:=by omega
    clear hsz hb5 hwwr;go_wp2_with fail;rw[← HP5.out,← HQ5.out,← HW5.out];obtain⟨s0,s1,s2,s3,-⟩:=HPY.out.cj;have m0:=HFY.out.2 0;have m1:=HFY.out.2 1;have m2:=HFY.out.2 2;have m3:=HFY.out.2 3;obtain⟨t0,t1,t2,t3,-⟩:=HKc.out.cj;refine wp_region_held_drew (S:=fun W=>W.cell? ⟨u2,o2,none⟩=some (.int .i64 ya)∧W.cell? ⟨u2,o2+1,none⟩=some (.int .i64 yn)∧W.cell? ⟨u2,o2+2,none⟩=some (.string ys)∧W.cell? ⟨u2,o2+3,none⟩=some (.int .i64 yv)) (by kernel_rfl) (by go_keep) (fun hHeld=>?_);refine Tk 0 69 ?_;refine Tk 1 70 ?_;refine Tk 2 71 ?_;refine Tk 3 72 ?_;refine Tk 4 73 ?_;refine Tc 5 (fun K hK=>?_);go_simp;refine Th hK ?_ (fun hHeld2=>?_)
    ·(try dsimp only);go_keep
    clear hK K hHeld;have hHeld:=hHeld2;clear hHeld2;refine Tk 6 1 ?_;refine wpAnyH_done (by kernel_rfl) ?_ _;clear hHeld s0 s1 s2 s3 m0 m1 m2 m3 t0 t1 t2 t3;obtain⟨W6,hW6⟩:∃ W,W=(((((W5.setCell ⟨p2,0,none⟩ (.int .i64 ya)).setCell ⟨p2,1,none⟩ (.int .i64 yn)).setCell ⟨p2,2,none⟩ (.string ys)).setCell ⟨p2,3,none⟩ (.int .i64 yv))).drew:=⟨_,rfl⟩
    have HKn:Hid (Kept [(⟨u2,o2,none⟩,.int .i64 ya),(⟨u2,o2+1,none⟩,.int .i64 yn),(⟨u2,o2+2,none⟩,.string ys),(⟨u2,o2+3,none⟩,.int .i64 yv),(⟨ba,2,none⟩,.slice Ca na ca9),(⟨bb,2,none⟩,.slice Cb nb cb9)] wr W6):=by
     unfold Hid;rw[hW6];exact (HKc.out.past4 (p:=p2) hpw2 (by simp[*]) _ _ _ _).drew
    have HNX:Hid (Kept [(⟨p2,0,none⟩,.int .i64 ya),(⟨p2,1,none⟩,.int .i64 yn),(⟨p2,2,none⟩,.string ys),(⟨p2,3,none⟩,.int .i64 yv)] wr W6):=by
     unfold Hid;rw[hW6];exact ((Kept.nil_of HKc.out.below).set4 (p:=p2) hpw2 (by simp) ⟨_,HPY.out.c0⟩ ⟨_,HPY.out.c1⟩ ⟨_,HPY.out.c2⟩ ⟨_,HPY.out.c3⟩ _ _ _ _).drew
    have HOX:Hid (Kept [(⟨p,0,none⟩,.int .i64 0),(⟨p,1,none⟩,.int .i64 0),(⟨p,2,none⟩,.string ⟨#[]⟩),(⟨p,3,none⟩,.int .i64 0)] wr W6):=by
     unfold Hid;rw[hW6];exact (HPX.out.past4 (p:=p2) hpw2 (by simp[*]) _ _ _ _).drew
    have HFN:Hid (Free p2 W6):=by unfold Hid;rw[hW6];exact (((((HFY.out.set _ _).set _ _).set _ _).set _ _)).drew
    have HFO:Hid (Free p W6):=by unfold Hid;rw[hW6];exact (((((HFX.out.set _ _).set _ _).set _ _).set _ _)).drew
    have HW6:=Lib.hid hW6;clear hW6 HKc HPY HPX HFY HFX;have HKc:=HKn;have HPY:=HNX;have HPX:=HOX;have HFY:=HFN;have HFX:=HFO;clear HKn HNX HOX HFN HFO;obtain⟨o9,ho9⟩:∃ o,stE ca cb (none) (some ⟨ya,yn,ys,yv⟩)=o:=⟨_,rfl⟩;have HO9:=Lib.hid ho9
    have HOUT:Hid (out++(o9.toList++mrg keyE ltD (stE ca cb) [] b1)=tot):=by
     have h1:=HOUT.out;rw[mrg_right (key:=keyE) (lt:=ltD) (st:=stE ca cb) (⟨ya,yn,ys,yv⟩:E) b1,ho9]at h1;exact h1
    have HQT:Hid (q≤200000):=by
     have h1:=congrArg List.length HOUT.out;have h2:=HLT.out;have h3:=HNM.out;have h4:=HLO.out;rw[List.length_append]at h1;unfold Hid;omega
    have hst0:=stayE_right ca Ca na ca9 ba bb ya yn ys yv W6 HPA.out.1 hna HKc.out.c4 ((HPA.out.2.1.below (HKW.out.below.trans (HKc.out.below.mono HKW.out.below.size))).more (HKW.out.below.trans (HKc.out.below.mono HKW.out.below.size)).size) HPA.out.2.2 (HGB.out.2 _ List.mem_cons_self)
    have HST:Hid (Calls Tryz.prog 180 #[.agg #[.int .i64 0,.int .i64 0,.string ⟨#[]⟩,.int .i64 0],.agg #[.int .i64 ya,.int .i64 yn,.string ys,.int .i64 yv],.pointer (some ⟨bb,0,none⟩),.pointer (some ⟨ba,0,none⟩)] W6 (StayE o9 W6)):=by
     unfold Hid;rw[← ho9];exact hst0
    clear hst0;clear ho9;rw[← HW6.out];obtain⟨k0,k1,k2,k3,-⟩:=HPX.out.cj;have k4:=HPY.out.c0;have k5:=HPY.out.c1;have k6:=HPY.out.c2;have k7:=HPY.out.c3;go_wp2_with fail;refine HST.out.mono ?_;rintro e v6 ⟨z,rfl,hz,hb6⟩;obtain⟨za,zn,zs,zv⟩:=z;have HB6:=Lib.hid (HKc.out.below.trans (hb6.mono HKc.out.below.size));have hs6:wr.heap.size≤v6.heap.size:=HB6.out.size;have hbz:Below v6.heap.size v6 (v6.alloc (.cells #[.int .i64 za,.int .i64 zn,.string zs,.int .i64 zv] 97)):=Dt.box_below _ _ _;have HB8:Hid (Below wr.heap.size wr (v6.alloc (.cells #[.int .i64 za,.int .i64 zn,.string zs,.int .i64 zv] 97))):=HB6.out.trans (hbz.mono hs6)
    have hs8:((v6.alloc (.cells #[.int .i64 za,.int .i64 zn,.string zs,.int .i64 zv] 97))).heap.size=v6.heap.size+1:=by simp
    clear hb6 hbz k0 k1 k2 k3 k4 k5 k6 k7 HKc HPX HPY HFX HFY
    cases o9 with
    | none=>
     have HOUT:Hid (out++mrg keyE ltD (stE ca cb) [] b1=tot):=HOUT.out;go_wp2_with fail;obtain⟨w9,hw9⟩:∃ W,W=(v6.alloc (.cells #[.int .i64 za,.int .i64 zn,.string zs,.int .i64 zv] 97)):=⟨_,rfl⟩;rw[← hw9]at HB8 ⊢;clear hw9 hs8;go_roundw
     case rel=>exact⟨[],b1,out,A,B1,Ax,0,m1,q,c,(d-1),cx,rfl,rfl,rfl,by omega,by omega,rfl,HRA.out.below (HB8.out.mono HKW.out.below.size),HGA.out,HB1.out.1,HB1.out.2.below (HB8.out.mono HKW.out.below.size),⟨(List.pairwise_cons.1 HGB.out.1).2,fun e he=>HGB.out.2 e (List.mem_cons_of_mem _ he)⟩,HOUT.out,HLO.out,own_later HOW.out HB8.out,HKW.out.low2 HLOW.out (HB8.out.mono HKW.out.below.size)⟩
     case measure=>simp[cntOf];omega
    | some z9=>
     obtain rfl:=hz z9 rfl;obtain⟨A6,c6,w6,r6,HO6,hb6⟩:=push_ent ((v6.alloc (.cells #[.int .i64 za,.int .i64 zn,.string zs,.int .i64 zv] 97))) w.heap.size (v6.heap.size+1) hs8 (own_later HOW.out HB8.out) HLO.out (Nat.le_trans HKW.out.below.size HB8.out.size) (⟨za,zn,zs,zv⟩:E) (by have:=HQT.out;omega);dsimp only at r6;have Hrun:=Lib.hid r6;have HO7:=Lib.hid HO6;have hww:=HKW.out.below.size;have HB7:Hid (Below w.heap.size wr w6):=(HB8.out.mono hww).trans hb6
     have HOUT:Hid ((out++[⟨za,zn,zs,zv⟩])++mrg keyE ltD (stE ca cb) [] b1=tot):=by
      have h1:=HOUT.out;rw[← List.append_assoc]at h1;exact h1
     have HLO:Hid ((out++[(⟨za,zn,zs,zv⟩:E)]).length=q+1):=by unfold Hid;rw[List.length_append,HLO.out];rfl
     clear r6 HO6 hb6 hs8 hww;go_wp2_with (at_builtin;refine Lib.wpList_append_run _ rfl _ _ _ _ rfl _ _ rfl rfl _ _ Hrun.out ?_);go_roundw
     case rel=>exact⟨[],b1,(out++[(⟨za,zn,zs,zv⟩:E)]),A,B1,A6,0,m1,(q+1),c,(d-1),c6,rfl,rfl,by go_num,by omega,by omega,rfl,HRA.out.below HB7.out,HGA.out,HB1.out.1,HB1.out.2.below HB7.out,⟨(List.pairwise_cons.1 HGB.out.1).2,fun e he=>HGB.out.2 e (List.mem_cons_of_mem _ he)⟩,HOUT.out,HLO.out,HO7.out,HKW.out.low2 HLOW.out HB7.out⟩
     case measure=>simp[cntOf];omega
   ·obtain rfl:n=0:=by omega
    obtain rfl:m=0:=by omega
    obtain rfl:a=[]:=List.length_eq_zero_iff.1 HLA.out;obtain rfl:b=[]:=List.length_eq_zero_iff.1 HLB.out;have ho:=HOUT.out;rw[mrg_nil,List.append_nil]at ho;subst ho;go_wp2_with fail;go_ret;exact⟨Ax,q,cx,rfl,HLO.out,HOW.out,HKW.out.below⟩
end Cs
end Go.Proofs.YtgeafpaognhokaaGreat
