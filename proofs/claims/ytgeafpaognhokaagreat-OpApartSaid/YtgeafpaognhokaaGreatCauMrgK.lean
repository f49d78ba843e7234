/- What is known: two rising lists of kids, side by side. -/
import Derived.Test.YtgeafpaognhokaaGreatG00
import Derived.Test.YtgeafpaognhokaaGreatCauStayK
namespace Go.Proofs.YtgeafpaognhokaaGreat
open Go.ChangeShapes Go.WideShapes Go.ChangeAt Go.RowKit
namespace Cs
open Tr Cx Sp Rw
theorem cmpS_gt (a b:ByteArray):0<cmpS a b↔ltS b a:=by
 rcases tot_str.tri a b with h | h | h
 ·have h1:=(cmpS_lt a b).2 h
  exact⟨fun h2=>by omega,fun h2=>absurd h2 (tot_str.asym h)⟩
 ·have h1:=(cmpS_eq a b).2 h
  subst h;exact⟨fun h2=>by omega,fun h2=>absurd h2 (tot_str.irr _)⟩
 ·refine⟨fun _=>h,fun _=>?_⟩
  have h1:¬cmpS a b<0:=fun h2=>tot_str.asym h ((cmpS_lt a b).1 h2)
  have h3:¬cmpS a b=0:=fun h2=>by rw[(cmpS_eq a b).1 h2]at h;exact tot_str.irr _ h
  omega
def RdK (w:World) (B:Nat) (A:Option Addr) (n c:Nat) (ks:List Kd):Prop:=∃ xs:List Value,Rd w B 3 A n c xs∧ks.length=n∧∀ (i:Nat) (h:i<ks.length),∃ se sk:SV,xs[i*3]?=some (.string (ks[i]).1)∧xs[i*3+1]?=some (.slice se.A se.n se.c)∧xs[i*3+2]?=some (.slice sk.A sk.n sk.c)∧RdT w B (ks[i]).2 se sk
theorem RdK.below {w w2:World} {B n c:Nat} {A:Option Addr} {ks:List Kd} (h:RdK w B A n c ks) (hb:Below B w w2):RdK w2 B A n c ks:=by
 obtain⟨xs,h1,h2,h3⟩:=h;refine⟨xs,h1.below hb,h2,fun i hi=>?_⟩;obtain⟨se,sk,e1,e2,e3,e4⟩:=h3 i hi;exact⟨se,sk,e1,e2,e3,RdT.below e4 hb⟩
theorem RdK.head {w:World} {B n c:Nat} {A:Option Addr} {k:ByteArray} {t:T} {ks:List Kd} (h:RdK w B A n c ((k,t)::ks)) (hn:0<n):∃ b o,A=some ⟨b,o,none⟩∧b<B∧∃ se sk:SV,w.cell? ⟨b,o,none⟩=some (.string k)∧w.cell? ⟨b,o+1,none⟩=some (.slice se.A se.n se.c)∧w.cell? ⟨b,o+2,none⟩=some (.slice sk.A sk.n sk.c)∧RdT w B t se sk:=by
 obtain⟨xs,h1,h2,h3⟩:=h;obtain⟨b,o,e,hb,hc⟩:=h1.at_ hn;obtain⟨se,sk,e1,e2,e3,e4⟩:=h3 0 (by simp);refine⟨b,o,e,hb,se,sk,?_,?_,?_,e4⟩
 ·have:=hc _ _ e1;simpa using this
 ·have:=hc _ _ e2;simpa using this
 ·have:=hc _ _ e3;simpa using this
theorem RdK.tail {w:World} {B n c:Nat} {A:Option Addr} {k:Kd} {ks:List Kd} (h:RdK w B A n c (k::ks)) (hn:0<n):RdK w B (if c=1 then A else A.map (·.add (1*3))) (n-1) (c-1) ks:=by
 obtain⟨xs,h1,h2,h3⟩:=h;refine⟨xs.drop (1*3),h1.from_ (i:=1) (by omega),by simp at h2;omega,fun i hi=>?_⟩;obtain⟨se,sk,e1,e2,e3,e4⟩:=h3 (i+1) (by simp;omega);refine⟨se,sk,?_,?_,?_,e4⟩
 ·rw[List.getElem?_drop,show 1*3+i*3=(i+1)*3 by omega];exact e1
 ·rw[List.getElem?_drop,show 1*3+(i*3+1)=(i+1)*3+1 by omega];exact e2
 ·rw[List.getElem?_drop,show 1*3+(i*3+2)=(i+1)*3+2 by omega];exact e3
theorem rd_lens2 {w:World} {ok:Nat→Prop} {t:T} {se sk:SV} (h:RdO w ok t se sk):t.es.length=se.n∧t.ks.length=sk.n:=by
 obtain⟨es,ks⟩:=t;rw[rdO_mk]at h;exact⟨h.1,h.2.2.1⟩
def TreesOk (d:Nat) (ca cb:List S3):Prop:=∀ (ta tb:T) (Ae Ak Be Bk Ca Cb:Option Addr) (ne nk ce ck me mk de dk na ca9 nb cb9:Nat) (w:World),RT d ta→RT d tb→¬(ta=none_∧tb=none_)→nodes ta≤100000→nodes tb≤100000→ca.length=na→cb.length=nb→na≤100000→nb≤100000→Rd w w.heap.size 3 Ca na ca9 (spsC ca)→Rd w w.heap.size 3 Cb nb cb9 (spsC cb)→RightC ca→RightC cb→RdT w w.heap.size ta ⟨Ae,ne,ce⟩ ⟨Ak,nk,ck⟩→RdT w w.heap.size tb ⟨Be,me,de⟩ ⟨Bk,mk,dk⟩ →
  Calls Tryz.prog 124 #[.agg #[.slice Ae ne ce,.slice Ak nk ck,.slice Ca na ca9],.agg #[.slice Be me de,.slice Bk mk dk,.slice Cb nb cb9]] w (TreeIs (joinT d ca cb ta tb) w)
theorem boxK2 (w:World):∃ (W:World) (p q:Nat),Hid (W=(w.alloc (.cells #[.string ⟨#[]⟩,.slice none 0 0,.slice none 0 0] 134)).alloc (.cells #[.string ⟨#[]⟩,.slice none 0 0,.slice none 0 0] 134))∧Hid (p=w.heap.size)∧Hid (q=p+1)∧Hid (Kept [(⟨p,0,none⟩,.string ⟨#[]⟩),(⟨p,1,none⟩,.slice none 0 0),(⟨p,2,none⟩,.slice none 0 0)] w W)∧Hid (Kept [(⟨q,0,none⟩,.string ⟨#[]⟩),(⟨q,1,none⟩,.slice none 0 0),(⟨q,2,none⟩,.slice none 0 0)] w W)∧Hid (Free p W)∧Hid (Free q W)∧Below w.heap.size w W:=by
 refine⟨_,_,_,rfl,rfl,rfl,?_,?_,⟨by simp;omega,fun j=>by go_simp⟩,⟨by simp,fun j=>by go_simp⟩,Dt.box2_below _ _ _ _ _⟩
 ·have h0:=Kept.nil_of (Dt.box2_below w #[.string ⟨#[]⟩,.slice none 0 0,.slice none 0 0] #[.string ⟨#[]⟩,.slice none 0 0,.slice none 0 0] 134 134)
  refine ((h0.cons_of ?_).cons_of ?_).cons_of ?_ <;> go_simp
 ·have h0:=Kept.nil_of (Dt.box2_below w #[.string ⟨#[]⟩,.slice none 0 0,.slice none 0 0] #[.string ⟨#[]⟩,.slice none 0 0,.slice none 0 0] 134 134)
  refine ((h0.cons_of ?_).cons_of ?_).cons_of ?_ <;> go_simp
set_option maxRecDepth 100000 in
set_option maxHeartbeats 4000000 in
theorem mergedK_any (dd:Nat) (ca cb:List S3) (hih:TreesOk dd ca cb) (Ca Cb:Option Addr) (na ca9 nb cb9 ba bb:Nat) (ks ks2:List Kd) (A B:Option Addr) (n m c d:Nat) (w:World) (hla:ca.length=na) (hlb:cb.length=nb) (hna:na≤100000) (hnb:nb≤100000)
  (hca:w.cell? ⟨ba,2,none⟩=some (.slice Ca na ca9)) (hcb:w.cell? ⟨bb,2,none⟩=some (.slice Cb nb cb9)) (hra:Rd w w.heap.size 3 Ca na ca9 (spsC ca)) (hrb:Rd w w.heap.size 3 Cb nb cb9 (spsC cb)) (hRa:RightC ca) (hRb:RightC cb)
  (hl1:ks.length=n) (hl2:ks2.length=m) (hn:n≤100000) (hm:m≤100000) (hr1:RdK w w.heap.size A n c ks) (hr2:RdK w w.heap.size B m d ks2) (hu1:Up keyK ltS ks) (hu2:Up keyK ltS ks2) (hg1:∀ k∈ks,RightT dd k.2∧nodes k.2≤100000∧¬k.2=none_∧1≤k.1.size) (hg2:∀ k∈ks2,RightT dd k.2∧nodes k.2≤100000∧¬k.2=none_∧1≤k.1.size) :
  Calls Tryz.prog 184 #[.slice A n c,.slice B m d,.func (.func 183) #[] #[],.func (.func 185) #[] #[.pointer (some ⟨ba,0,none⟩),.pointer (some ⟨bb,0,none⟩)]] w fun e w'=>∃ A' q c' kr,e = .returned (.slice A' q c')∧KidRow w' w.heap.size 134 A' q c' (mrg keyK ltS (stK (joinT dd ca cb)) ks ks2) kr∧Below w.heap.size w w':=by
 have HIH:=Lib.hid hih;have HPA:=Lib.hid (And.intro hla (And.intro hra hRa));have HPB:=Lib.hid (And.intro hlb (And.intro hrb hRb));have HK0:=Lib.hid (((Kept.nil w).cons_of hcb).cons_of hca);have HBA:Hid (ba<w.heap.size):=World.block_lt_of_cell? w _ hca;have HBB:Hid (bb<w.heap.size):=World.block_lt_of_cell? w _ hcb
 have HLOW:Hid (∀ x∈([(⟨ba,2,none⟩,.slice Ca na ca9),(⟨bb,2,none⟩,.slice Cb nb cb9)]:List (Addr×Value)),x.1.block<w.heap.size):=by
  have h1:=HBA.out;have h2:=HBB.out;intro x hx
  simp at hx
  rcases hx with rfl | rfl <;> assumption
 obtain⟨tot,htot⟩:∃ l,mrg keyK ltS (stK (joinT dd ca cb)) ks ks2=l:=⟨_,rfl⟩;rw[htot];have HTOT:=Lib.hid htot
 have HLT:Hid (tot.length≤n+m):=by
  unfold Hid;rw[← htot]
  have h1:=mrg_weight (α:=ByteArray×T) (key:=keyK) (lt:=ltS) (st:=stK (joinT dd ca cb)) (fun _=>1) (fun x y z h=>by
   cases x with
   | some x=>simp
   | none=>
    cases y with
    | some y=>simp
    | none=>rw[(keepsK (joinT_none dd ca cb)).zero]at h;cases h) ks ks2
  have e1:∀ l:List (ByteArray×T),(l.map fun _=>1).sum=l.length:=fun l=>by
   induction l with
   | nil=>rfl
   | cons k l ih=>simp only[List.map_cons,List.sum_cons,List.length_cons,ih];omega
  rw[e1,e1,e1]at h1;omega
 have HA0:=Lib.hid (And.intro hl1 (And.intro hr1 (And.intro hu1 hg1)));have HB0:=Lib.hid (And.intro hl2 (And.intro hr2 (And.intro hu2 hg2)))
 have HNM:Hid (n+m≤200000):=by unfold Hid;omega
 obtain⟨i0,hi0,hz0,hz1,hz2⟩:=info_of infoK;clear hih hla hlb hca hcb hra hrb hRa hRb hr1 hr2 hu1 hu2 hg1 hg2 htot hl1 hl2;go_enter Tryz.func184,Tryz.ntmps184;go_wp2_with fail
 go_loopw [0,1,9] (fun sa sb so wr=>∃ (a b out:List Kd) (kr:List (ByteArray×SV×SV)) (A B Ax:Option Addr) (n m q c d cx:Nat),sa = .slice A n c∧sb = .slice B m d∧so = .slice Ax q cx∧n≤100000∧m≤100000∧Hid (a.length=n)∧Hid (RdK wr w.heap.size A n c a)∧Hid (Up keyK ltS a∧∀ k∈a,RightT dd k.2∧nodes k.2≤100000∧¬k.2=none_∧1≤k.1.size)∧Hid (b.length=m)∧Hid (RdK wr w.heap.size B m d b)∧Hid (Up keyK ltS b∧∀ k∈b,RightT dd k.2∧nodes k.2≤100000∧¬k.2=none_∧1≤k.1.size)∧Hid (out++mrg keyK ltS (stK (joinT dd ca cb)) a b=tot)∧Hid (out.length=q)∧Hid (KidRow wr w.heap.size 134 Ax q cx out kr)∧Hid (Kept [(⟨ba,2,none⟩,.slice Ca na ca9),(⟨bb,2,none⟩,.slice Cb nb cb9)] w wr)) (fun sa sb _ _=>cntOf (some sa)+cntOf (some sb))
 case atStart=>exact⟨ks,ks2,[],[],A,B,none,n,m,0,c,d,0,rfl,rfl,rfl,hn,hm,HA0.out.1,HA0.out.2.1,HA0.out.2.2,HB0.out.1,HB0.out.2.1,HB0.out.2.2,by have h1:=HTOT.out;exact h1,rfl,KidRow.nil _ _ _,HK0.out⟩
 case round=>
  clear HA0 HB0 hn hm;obtain⟨a,b,out,kr,A,B,Ax,n,m,q,c,d,cx,rfl,rfl,rfl,hn,hm,HLA,HRA,HGA,HLB,HRB,HGB,HOUT,HLO,HOW,HKW⟩:=hrel
  by_cases hn0:0<n
  ·by_cases hm0:0<m
   ·obtain⟨x,a1,rfl⟩:∃ x l,a=x::l:=by
     cases a with
     | nil=>have h1:=HLA.out;simp at h1;omega
     | cons x l=>exact⟨x,l,rfl⟩
    obtain⟨xk,xt⟩:=x;obtain⟨u1,o1,rfl,hu1,⟨⟨Xe,xn,xc⟩,⟨Xk,xm,xd⟩,x0,x1,x2,hrtx⟩⟩:=HRA.out.head (by omega);dsimp only at x1 x2;have HRTx:=Lib.hid hrtx;have hwu1:u1<wr.heap.size:=World.block_lt_of_cell? wr _ x0;obtain⟨n1,hn1⟩:∃ z,z=n-1:=⟨_,rfl⟩
    obtain⟨A1,hA1⟩:∃ z,z=(if c=1 then some (⟨u1,o1,none⟩:Addr)else (some (⟨u1,o1,none⟩:Addr)).map (·.add (1*3))):=⟨_,rfl⟩
    have hcutx:∀ W,(Instr.slice 33 (.slice (some ⟨u1,o1,none⟩) n c) (some (.int .i64 1)) none none).run Tryz.prog W = .ok (.slice A1 n1 (c-1)) W:=fun W=>by
     have h1:=run_cut_from (P:=Tryz.prog) 33 134 3 Tryz.underlying33 hi0 hz1 (some ⟨u1,o1,none⟩) n c 1 (by omega) W;rw[← hA1,← hn1]at h1;exact h1
    have HA1:Hid (a1.length=n1∧RdK wr w.heap.size A1 n1 (c-1) a1):=by
     have h2:=HLA.out;refine⟨by rw[hn1];simp at h2;omega,?_⟩;rw[hA1,hn1];exact HRA.out.tail (by omega)
    have fna:((n:Int)==0)=false:=by rw[beq_eq_false_iff_ne];omega
    have fnb:decide ((0:Int)<(n:Int))=true:=decide_eq_true (by omega)
    have hnn1:n1+1=n:=by omega
    clear hn1 hA1 hrtx
    obtain⟨y,b1,rfl⟩:∃ x l,b=x::l:=by
     cases b with
     | nil=>have h1:=HLB.out;simp at h1;omega
     | cons x l=>exact⟨x,l,rfl⟩
    obtain⟨yk,yt⟩:=y;obtain⟨u2,o2,rfl,hu2,⟨⟨Ye,yn,yc⟩,⟨Yk,ym,yd⟩,y0,y1,y2,hrty⟩⟩:=HRB.out.head (by omega);dsimp only at y1 y2;have HRTy:=Lib.hid hrty;have hwu2:u2<wr.heap.size:=World.block_lt_of_cell? wr _ y0;obtain⟨m1,hm1⟩:∃ z,z=m-1:=⟨_,rfl⟩
    obtain⟨B1,hB1⟩:∃ z,z=(if d=1 then some (⟨u2,o2,none⟩:Addr)else (some (⟨u2,o2,none⟩:Addr)).map (·.add (1*3))):=⟨_,rfl⟩
    have hcuty:∀ W,(Instr.slice 33 (.slice (some ⟨u2,o2,none⟩) m d) (some (.int .i64 1)) none none).run Tryz.prog W = .ok (.slice B1 m1 (d-1)) W:=fun W=>by
     have h1:=run_cut_from (P:=Tryz.prog) 33 134 3 Tryz.underlying33 hi0 hz1 (some ⟨u2,o2,none⟩) m d 1 (by omega) W;rw[← hB1,← hm1]at h1;exact h1
    have HB1:Hid (b1.length=m1∧RdK wr w.heap.size B1 m1 (d-1) b1):=by
     have h2:=HLB.out;refine⟨by rw[hm1];simp at h2;omega,?_⟩;rw[hB1,hm1];exact HRB.out.tail (by omega)
    have fma:((m:Int)==0)=false:=by rw[beq_eq_false_iff_ne];omega
    have fmb:decide ((0:Int)<(m:Int))=true:=decide_eq_true (by omega)
    have hnm1:m1+1=m:=by omega
    clear hm1 hB1 hrty
    by_cases hlt:ltS xk yk
    ·have hcmp:=hlt
     have HKc:=Lib.hid ((((((((((Kept.nil wr).cons_of HKW.out.c1).cons_of HKW.out.c0).cons_of y2).cons_of y1).cons_of y0).cons_of x2).cons_of x1).cons_of x0).drew);obtain⟨c9,hc9⟩:∃ z,cmpS xk yk=z:=⟨_,rfl⟩;have HC9:=Lib.hid hc9;have g1:decide (c9≤0)=true:=decide_eq_true (by have:=(cmpS_lt xk yk).2 hcmp;omega);have g2:decide (0≤c9)=false:=decide_eq_false (by have:=(cmpS_lt xk yk).2 hcmp;omega);clear hc9;go_wp2_with fail;refine wp_region_held_drew (S:=fun W=>W.cell? ⟨u1,o1,none⟩=some (.string xk)∧W.cell? ⟨u1,o1+1,none⟩=some (.slice Xe xn xc)∧W.cell? ⟨u1,o1+2,none⟩=some (.slice Xk xm xd)∧W.cell? ⟨u2,o2,none⟩=some (.string yk)∧W.cell? ⟨u2,o2+1,none⟩=some (.slice Ye yn yc)∧W.cell? ⟨u2,o2+2,none⟩=some (.slice Yk ym yd)) (by kernel_rfl) (by exact⟨HKc.out.c0,HKc.out.c1,HKc.out.c2,HKc.out.c3,HKc.out.c4,HKc.out.c5⟩) (fun hHeld=>?_)
     refine Tk 0 24 ?_;refine Tk 1 25 ?_;refine Tk 2 26 ?_;refine Tk 3 27 ?_;refine Tk 4 28 ?_;refine Tk 5 29 ?_;refine Tk 6 30 ?_;refine Tk 7 31 ?_;refine Tk 8 32 ?_;refine Tk 9 33 ?_;refine Tk 10 34 ?_;refine Tk 11 35 ?_;refine Tk 12 36 ?_;refine Tk 13 37 ?_;refine Tk 14 38 ?_;refine Tc 15 (fun K hK=>?_);go_simp;(go_at_call 183;refine (byKey_any xk yk Xe Xk xn xm xc xd Ye Yk yn ym yc yd _).mono ?_);rw[HC9.out];rintro e v1 ⟨rfl,hb9⟩;have HKc:=Lib.hid (HKc.out.later hb9);clear hb9;clear hHeld;refine Th hK ?_ (fun hHeld=>?_)
     ·exact⟨HKc.out.c0,HKc.out.c1,HKc.out.c2,HKc.out.c3,HKc.out.c4,HKc.out.c5⟩
     clear hK K;refine Tk 16 40 ?_;refine Tk 17 41 ?_;refine Tk 18 42 ?_;refine Tk 19 10 ?_;refine wpAnyH_done (by kernel_rfl) ?_ _;clear hHeld;go_wp2_with fail;have HKc:=Lib.hid (HKc.out.drew);refine wp_region_held_drew (S:=fun W=>W.cell? ⟨u1,o1,none⟩=some (.string xk)∧W.cell? ⟨u1,o1+1,none⟩=some (.slice Xe xn xc)∧W.cell? ⟨u1,o1+2,none⟩=some (.slice Xk xm xd)∧W.cell? ⟨u2,o2,none⟩=some (.string yk)∧W.cell? ⟨u2,o2+1,none⟩=some (.slice Ye yn yc)∧W.cell? ⟨u2,o2+2,none⟩=some (.slice Yk ym yd)) (by kernel_rfl) (by exact⟨HKc.out.c0,HKc.out.c1,HKc.out.c2,HKc.out.c3,HKc.out.c4,HKc.out.c5⟩) (fun hHeld=>?_);refine Tk 0 43 ?_;refine Tk 1 44 ?_;refine Tk 2 45 ?_;refine Tk 3 46 ?_;refine Tk 4 47 ?_;refine Tk 5 48 ?_;refine Tk 6 49 ?_;refine Tk 7 50 ?_;refine Tk 8 51 ?_;refine Tk 9 52 ?_;refine Tk 10 53 ?_;refine Tk 11 54 ?_;refine Tk 12 55 ?_
     refine Tk 13 56 ?_;refine Tk 14 57 ?_;refine Tc 15 (fun K hK=>?_);go_simp;(go_at_call 183;refine (byKey_any xk yk Xe Xk xn xm xc xd Ye Yk yn ym yc yd _).mono ?_);rw[HC9.out];rintro e v2 ⟨rfl,hb9⟩;have HKc:=Lib.hid (HKc.out.later hb9);clear hb9;clear hHeld;refine Th hK ?_ (fun hHeld=>?_)
     ·exact⟨HKc.out.c0,HKc.out.c1,HKc.out.c2,HKc.out.c3,HKc.out.c4,HKc.out.c5⟩
     clear hK K;refine Tk 16 59 ?_;refine Tk 17 60 ?_;refine Tk 18 61 ?_;refine Tk 19 11 ?_;refine wpAnyH_done (by kernel_rfl) ?_ _;clear hHeld;have hsz:=HKc.out.below.size;obtain⟨W5,p,p2,HW5,HP5,HQ5,HPX,HPY,HFX,HFY,hb5⟩:=boxK2 (v2);have HKc:=Lib.hid (HKc.out.later hb5);have HPX:=Lib.hid (HPX.out.rebase HKc.out.below);have HPY:=Lib.hid (HPY.out.rebase HKc.out.below)
     have hpw:wr.heap.size≤p:=by have:=HP5.out;omega
     have hpw2:wr.heap.size≤p2:=by have:=HQ5.out;omega
     have hpp:¬p=p2:=by have:=HQ5.out;omega
     have hpp2:¬p2=p:=by omega
     have hwwr:=HKW.out.below.size
     have hap:¬ba=p:=by have:=HBA.out;omega
     have hap2:¬ba=p2:=by have:=HBA.out;omega
     have hbp:¬bb=p:=by have:=HBB.out;omega
     have hbp2:¬bb=p2:=by have:=HBB.out;omega
     have h1p:¬u1=p:=by omega
     have h1p2:¬u1=p2:=by omega
     have h1q:¬p=u1:=by omega
     have h1q2:¬p2=u1:=by omega
     have h2p:¬u2=p:=by omega
     have h2p2:¬u2=p2:=by omega
     have h2q:¬p=u2:=by omega
     have h2q2:¬p2=u2:=by omega
     clear hsz hb5 hwwr;go_wp2_with fail;rw[← HP5.out,← HQ5.out,← HW5.out];obtain⟨s0,s1,s2,-⟩:=HPX.out.cj;have m0:=HFX.out.2 0;have m1:=HFX.out.2 1;have m2:=HFX.out.2 2;obtain⟨t0,t1,t2,-⟩:=HKc.out.cj;refine wp_region_held_drew (S:=fun W=>W.cell? ⟨u1,o1,none⟩=some (.string xk)∧W.cell? ⟨u1,o1+1,none⟩=some (.slice Xe xn xc)∧W.cell? ⟨u1,o1+2,none⟩=some (.slice Xk xm xd)) (by kernel_rfl) (by go_keep) (fun hHeld=>?_);refine Tk 0 63 ?_;refine Tk 1 64 ?_;refine Tk 2 65 ?_;refine Tk 3 66 ?_;refine Tk 4 67 ?_;refine Tc 5 (fun K hK=>?_);go_simp;refine Th hK ?_ (fun hHeld2=>?_)
     ·(try dsimp only);go_keep
     clear hK K hHeld;have hHeld:=hHeld2;clear hHeld2;refine Tk 6 0 ?_;refine wpAnyH_done (by kernel_rfl) ?_ _;clear hHeld s0 s1 s2 m0 m1 m2 t0 t1 t2;obtain⟨W6,hW6⟩:∃ W,W=((((W5.setCell ⟨p,0,none⟩ (.string xk)).setCell ⟨p,1,none⟩ (.slice Xe xn xc)).setCell ⟨p,2,none⟩ (.slice Xk xm xd))).drew:=⟨_,rfl⟩
     have HKn:Hid (Kept [(⟨u1,o1,none⟩,.string xk),(⟨u1,o1+1,none⟩,.slice Xe xn xc),(⟨u1,o1+2,none⟩,.slice Xk xm xd),(⟨u2,o2,none⟩,.string yk),(⟨u2,o2+1,none⟩,.slice Ye yn yc),(⟨u2,o2+2,none⟩,.slice Yk ym yd),(⟨ba,2,none⟩,.slice Ca na ca9),(⟨bb,2,none⟩,.slice Cb nb cb9)] wr W6):=by
      unfold Hid;rw[hW6];exact (HKc.out.past3 (p:=p) hpw (by simp[*]) _ _ _).drew
     have HNX:Hid (Kept [(⟨p,0,none⟩,.string xk),(⟨p,1,none⟩,.slice Xe xn xc),(⟨p,2,none⟩,.slice Xk xm xd)] wr W6):=by
      unfold Hid;rw[hW6];exact ((Kept.nil_of HKc.out.below).set3 (p:=p) hpw (by simp) ⟨_,HPX.out.c0⟩ ⟨_,HPX.out.c1⟩ ⟨_,HPX.out.c2⟩ _ _ _).drew
     have HOX:Hid (Kept [(⟨p2,0,none⟩,.string ⟨#[]⟩),(⟨p2,1,none⟩,.slice none 0 0),(⟨p2,2,none⟩,.slice none 0 0)] wr W6):=by
      unfold Hid;rw[hW6];exact (HPY.out.past3 (p:=p) hpw (by simp[*]) _ _ _).drew
     have HFN:Hid (Free p W6):=by unfold Hid;rw[hW6];exact ((((HFX.out.set _ _).set _ _).set _ _)).drew
     have HFO:Hid (Free p2 W6):=by unfold Hid;rw[hW6];exact ((((HFY.out.set _ _).set _ _).set _ _)).drew
     have HW6:=Lib.hid hW6;clear hW6 HKc HPX HPY HFX HFY;have HKc:=HKn;have HPX:=HNX;have HPY:=HOX;have HFX:=HFN;have HFY:=HFO;clear HKn HNX HOX HFN HFO;obtain⟨t9,ht9⟩:∃ t,joinT dd ca cb xt none_=t:=⟨_,rfl⟩;obtain⟨o9,ho9⟩:∃ o,stK (joinT dd ca cb) (some (xk,xt)) (none)=o:=⟨_,rfl⟩
     have HO9:Hid ((EmptyT t9→o9=none)∧(¬EmptyT t9→o9=some (xk,t9))):=by
      refine⟨fun h=>?_,fun h=>?_⟩
      ·rw[← ho9]
       exact if_pos (show EmptyT (joinT dd ca cb xt none_) by rw[ht9];exact h)
      ·rw[← ho9]
       refine (if_neg (show ¬EmptyT (joinT dd ca cb xt none_) by rw[ht9];exact h)).trans ?_;rw[← ht9];rfl
     have HOUT:Hid (out++(o9.toList++mrg keyK ltS (stK (joinT dd ca cb)) a1 ((yk,yt)::b1))=tot):=by
      have h1:=HOUT.out;rw[mrg_lt (key:=keyK) (lt:=ltS) (st:=stK (joinT dd ca cb)) (x:=(xk,xt)) (y:=(yk,yt)) hcmp a1 b1,ho9]at h1;exact h1
     have HQT:Hid (q≤200000):=by
      have h1:=congrArg List.length HOUT.out;have h2:=HLT.out;have h3:=HNM.out;have h4:=HLO.out;rw[List.length_append]at h1;unfold Hid;omega
     have HST:Hid (Calls Tryz.prog 185 #[.agg #[.string xk,.slice Xe xn xc,.slice Xk xm xd],.agg #[.string ⟨#[]⟩,.slice none 0 0,.slice none 0 0],.pointer (some ⟨ba,0,none⟩),.pointer (some ⟨bb,0,none⟩)] W6 (StayKd xk t9 W6)):=by
      refine stayK_any xk ⟨#[]⟩ Xe Xk none none xn xm xc xd 0 0 0 0 Ca Cb na ca9 nb cb9 ba bb W6 HKc.out.c6 HKc.out.c7 t9 xk (by have h1:1≤xk.size:=(HGA.out.2 _ List.mem_cons_self).2.2.2;rw[if_neg (by omega)]) fun W hb=>?_;have h1:Below w.heap.size w W:=HKW.out.below.trans ((HKc.out.below.trans (hb.mono HKc.out.below.size)).mono HKW.out.below.size);have h2:Below w.heap.size wr W:=(HKc.out.below.trans (hb.mono HKc.out.below.size)).mono HKW.out.below.size;rw[← ht9];exact HIH.out xt none_ Xe Xk none none Ca Cb xn xm xc xd 0 0 0 0 na ca9 nb cb9 W (.inl (HGA.out.2 _ List.mem_cons_self).1) (.inr rfl) (fun h=>(HGA.out.2 _ List.mem_cons_self).2.2.1 h.1) (HGA.out.2 _ List.mem_cons_self).2.1 (by rw[show nodes none_=0 from by unfold none_;rw[nodes_mk];rfl];omega) HPA.out.1 HPB.out.1 hna hnb ((HPA.out.2.1.below h1).more h1.size) ((HPB.out.2.1.below h1).more h1.size) HPA.out.2.2 HPB.out.2.2 (RdT.more h1.size _ (RdT.below HRTx.out h2)) (RdT.none _ _ _ _)
     obtain⟨B9,hB9⟩:∃ z,z=W6.heap.size:=⟨_,rfl⟩
     have HB9:Hid (wr.heap.size≤B9):=by unfold Hid;rw[hB9];exact HKc.out.below.size
     clear ho9 ht9;rw[← HW6.out];obtain⟨k0,k1,k2,-⟩:=HPX.out.cj;have k3:=HPY.out.c0;have k4:=HPY.out.c1;have k5:=HPY.out.c2;go_wp2_with fail;refine HST.out.mono ?_;rintro e v6 ⟨Ze,zn,zc,Zk,zm,zd,rfl,hro,hb6⟩;have HRO:Hid (RdO v6 (fun b=>B9≤b) t9 ⟨Ze,zn,zc⟩ ⟨Zk,zm,zd⟩):=RdO.mono (fun b hb _=>by omega) _ hro;have hlz:t9.es.length=zn∧t9.ks.length=zm:=rd_lens2 hro;have HB6:=Lib.hid (HKc.out.below.trans (hb6.mono HKc.out.below.size));have hs6:wr.heap.size≤v6.heap.size:=HB6.out.size;have hbz:Below v6.heap.size v6 (v6.alloc (.cells #[.string xk,.slice Ze zn zc,.slice Zk zm zd] 134)):=Dt.box_below _ _ _;have HB8:Hid (Below wr.heap.size wr (v6.alloc (.cells #[.string xk,.slice Ze zn zc,.slice Zk zm zd] 134))):=HB6.out.trans (hbz.mono hs6)
     have hs8:((v6.alloc (.cells #[.string xk,.slice Ze zn zc,.slice Zk zm zd] 134))).heap.size=v6.heap.size+1:=by simp
     have HRO8:Hid (RdO (v6.alloc (.cells #[.string xk,.slice Ze zn zc,.slice Zk zm zd] 134)) (fun b=>B9≤b) t9 ⟨Ze,zn,zc⟩ ⟨Zk,zm,zd⟩):=RdO.later HRO.out hbz;clear hro hB9 hb6 hbz k0 k1 k2 k3 k4 k5 HKc HPX HPY HFX HFY HRO
     by_cases hem:EmptyT t9
     ·have hfe:decide (zn=0∧zm=0)=true:=decide_eq_true ⟨by rw[← hlz.1,hem.1];rfl,by rw[← hlz.2,hem.2];rfl⟩
      obtain rfl:o9=none:=by exact HO9.out.1 hem
      clear hlz hem;have HOUT:Hid (out++mrg keyK ltS (stK (joinT dd ca cb)) a1 ((yk,yt)::b1)=tot):=HOUT.out;go_wp2_with fail;obtain⟨w9,hw9⟩:∃ W,W=(v6.alloc (.cells #[.string xk,.slice Ze zn zc,.slice Zk zm zd] 134)):=⟨_,rfl⟩;rw[← hw9]at HB8 ⊢;clear hw9 hs8;go_roundw
      case rel=>exact⟨a1,_,out,kr,A1,some ⟨u2,o2,none⟩,Ax,n1,m,q,(c-1),d,cx,rfl,rfl,rfl,by omega,by omega,HA1.out.1,HA1.out.2.below (HB8.out.mono HKW.out.below.size),⟨(List.pairwise_cons.1 HGA.out.1).2,fun e he=>HGA.out.2 e (List.mem_cons_of_mem _ he)⟩,HLB.out,HRB.out.below (HB8.out.mono HKW.out.below.size),HGB.out,HOUT.out,HLO.out,HOW.out.later HB8.out,HKW.out.low2 HLOW.out (HB8.out.mono HKW.out.below.size)⟩
      case measure=>simp[cntOf];omega
     ·have hfe:decide (zn=0∧zm=0)=false:=decide_eq_false fun h=>hem ⟨List.length_eq_zero_iff.1 (by rw[hlz.1];exact h.1),List.length_eq_zero_iff.1 (by rw[hlz.2];exact h.2)⟩
      obtain rfl:o9=some (xk,t9):=by exact HO9.out.2 hem
      clear hlz hem;obtain⟨A6,c6,w6,r6,HO6,hb6,_⟩:=KidRow.push2 (k:=(xk,⟨Ze,zn,zc⟩,⟨Zk,zm,zd⟩)) Tryz.underlying33 infoK rfl (by omega) (HOW.out.later HB8.out) (v6.heap.size+1) hs8 (Nat.le_trans HKW.out.below.size HB8.out.size) (RdO.mono (fun b hb _=>⟨by have h1:=HB9.out;have h2:=HKW.out.below.size;have h3:B9≤b:=hb;omega,fun e=>by have h1:=(HOW.out.own.row.lt b e).2;have h2:=HB9.out;have h3:B9≤b:=hb;omega⟩) _ HRO8.out) (by have:=HQT.out;omega) #[.string xk,.slice Ze zn zc,.slice Zk zm zd] rfl;have Hrun:=Lib.hid r6;have HO7:=Lib.hid HO6;have hww:=HKW.out.below.size;have HB7:Hid (Below w.heap.size wr w6):=(HB8.out.mono hww).trans hb6
      have HOUT:Hid ((out++[(xk,t9)])++mrg keyK ltS (stK (joinT dd ca cb)) a1 ((yk,yt)::b1)=tot):=by
       have h1:=HOUT.out;rw[← List.append_assoc]at h1;exact h1
      have HLO:Hid ((out++[((xk,t9):Kd)]).length=q+1):=by unfold Hid;rw[List.length_append,HLO.out];rfl
      clear r6 HO6 hb6 hs8 hww;go_wp2_with (at_builtin;refine Lib.wpList_append_run _ rfl _ _ _ _ rfl _ _ rfl rfl _ _ Hrun.out ?_);go_roundw
      case rel=>exact⟨a1,_,(out++[((xk,t9):Kd)]),_,A1,some ⟨u2,o2,none⟩,A6,n1,m,(q+1),(c-1),d,c6,rfl,rfl,by go_num,by omega,by omega,HA1.out.1,HA1.out.2.below HB7.out,⟨(List.pairwise_cons.1 HGA.out.1).2,fun e he=>HGA.out.2 e (List.mem_cons_of_mem _ he)⟩,HLB.out,HRB.out.below HB7.out,HGB.out,HOUT.out,HLO.out,HO7.out,HKW.out.low2 HLOW.out HB7.out⟩
      case measure=>simp[cntOf];omega
    ·by_cases hgt:ltS yk xk
     ·have hcmp:=And.intro hlt hgt
      have HKc:=Lib.hid ((((((((((Kept.nil wr).cons_of HKW.out.c1).cons_of HKW.out.c0).cons_of y2).cons_of y1).cons_of y0).cons_of x2).cons_of x1).cons_of x0).drew);obtain⟨c9,hc9⟩:∃ z,cmpS xk yk=z:=⟨_,rfl⟩;have HC9:=Lib.hid hc9;have g1:decide (c9≤0)=false:=decide_eq_false (by have h1:¬cmpS xk yk<0:=fun h=>hcmp.1 ((cmpS_lt xk yk).1 h);have h2:=(cmpS_gt xk yk).2 hcmp.2;omega);have g2:decide (0≤c9)=true:=decide_eq_true (by have h1:¬cmpS xk yk<0:=fun h=>hcmp.1 ((cmpS_lt xk yk).1 h);have h2:=(cmpS_gt xk yk).2 hcmp.2;omega);clear hc9;go_wp2_with fail;refine wp_region_held_drew (S:=fun W=>W.cell? ⟨u1,o1,none⟩=some (.string xk)∧W.cell? ⟨u1,o1+1,none⟩=some (.slice Xe xn xc)∧W.cell? ⟨u1,o1+2,none⟩=some (.slice Xk xm xd)∧W.cell? ⟨u2,o2,none⟩=some (.string yk)∧W.cell? ⟨u2,o2+1,none⟩=some (.slice Ye yn yc)∧W.cell? ⟨u2,o2+2,none⟩=some (.slice Yk ym yd)) (by kernel_rfl) (by exact⟨HKc.out.c0,HKc.out.c1,HKc.out.c2,HKc.out.c3,HKc.out.c4,HKc.out.c5⟩) (fun hHeld=>?_)
      refine Tk 0 24 ?_;refine Tk 1 25 ?_;refine Tk 2 26 ?_;refine Tk 3 27 ?_;refine Tk 4 28 ?_;refine Tk 5 29 ?_;refine Tk 6 30 ?_;refine Tk 7 31 ?_;refine Tk 8 32 ?_;refine Tk 9 33 ?_;refine Tk 10 34 ?_;refine Tk 11 35 ?_;refine Tk 12 36 ?_;refine Tk 13 37 ?_;refine Tk 14 38 ?_;refine Tc 15 (fun K hK=>?_);go_simp;(go_at_call 183;refine (byKey_any xk yk Xe Xk xn xm xc xd Ye Yk yn ym yc yd _).mono ?_);rw[HC9.out];rintro e v1 ⟨rfl,hb9⟩;have HKc:=Lib.hid (HKc.out.later hb9);clear hb9;clear hHeld;refine Th hK ?_ (fun hHeld=>?_)
      ·exact⟨HKc.out.c0,HKc.out.c1,HKc.out.c2,HKc.out.c3,HKc.out.c4,HKc.out.c5⟩
      clear hK K;refine Tk 16 40 ?_;refine Tk 17 41 ?_;refine Tk 18 42 ?_;refine Tk 19 10 ?_;refine wpAnyH_done (by kernel_rfl) ?_ _;clear hHeld;go_wp2_with fail;have HKc:=Lib.hid (HKc.out.drew);refine wp_region_held_drew (S:=fun W=>W.cell? ⟨u1,o1,none⟩=some (.string xk)∧W.cell? ⟨u1,o1+1,none⟩=some (.slice Xe xn xc)∧W.cell? ⟨u1,o1+2,none⟩=some (.slice Xk xm xd)∧W.cell? ⟨u2,o2,none⟩=some (.string yk)∧W.cell? ⟨u2,o2+1,none⟩=some (.slice Ye yn yc)∧W.cell? ⟨u2,o2+2,none⟩=some (.slice Yk ym yd)) (by kernel_rfl) (by exact⟨HKc.out.c0,HKc.out.c1,HKc.out.c2,HKc.out.c3,HKc.out.c4,HKc.out.c5⟩) (fun hHeld=>?_);refine Tk 0 43 ?_;refine Tk 1 44 ?_;refine Tk 2 45 ?_;refine Tk 3 46 ?_;refine Tk 4 47 ?_;refine Tk 5 48 ?_;refine Tk 6 49 ?_;refine Tk 7 50 ?_;refine Tk 8 51 ?_;refine Tk 9 52 ?_;refine Tk 10 53 ?_;refine Tk 11 54 ?_
      refine Tk 12 55 ?_;refine Tk 13 56 ?_;refine Tk 14 57 ?_;refine Tc 15 (fun K hK=>?_);go_simp;(go_at_call 183;refine (byKey_any xk yk Xe Xk xn xm xc xd Ye Yk yn ym yc yd _).mono ?_);rw[HC9.out];rintro e v2 ⟨rfl,hb9⟩;have HKc:=Lib.hid (HKc.out.later hb9);clear hb9;clear hHeld;refine Th hK ?_ (fun hHeld=>?_)
      ·exact⟨HKc.out.c0,HKc.out.c1,HKc.out.c2,HKc.out.c3,HKc.out.c4,HKc.out.c5⟩
      clear hK K;refine Tk 16 59 ?_;refine Tk 17 60 ?_;refine Tk 18 61 ?_;refine Tk 19 11 ?_;refine wpAnyH_done (by kernel_rfl) ?_ _;clear hHeld;have hsz:=HKc.out.below.size;obtain⟨W5,p,p2,HW5,HP5,HQ5,HPX,HPY,HFX,HFY,hb5⟩:=boxK2 (v2);have HKc:=Lib.hid (HKc.out.later hb5);have HPX:=Lib.hid (HPX.out.rebase HKc.out.below);have HPY:=Lib.hid (HPY.out.rebase HKc.out.below)
      have hpw:wr.heap.size≤p:=by have:=HP5.out;omega
      have hpw2:wr.heap.size≤p2:=by have:=HQ5.out;omega
      have hpp:¬p=p2:=by have:=HQ5.out;omega
      have hpp2:¬p2=p:=by omega
      have hwwr:=HKW.out.below.size
      have hap:¬ba=p:=by have:=HBA.out;omega
      have hap2:¬ba=p2:=by have:=HBA.out;omega
      have hbp:¬bb=p:=by have:=HBB.out;omega
      have hbp2:¬bb=p2:=by have:=HBB.out;omega
      have h1p:¬u1=p:=by omega
      have h1p2:¬u1=p2:=by omega
      have h1q:¬p=u1:=by omega
      have h1q2:¬p2=u1:=by omega
      have h2p:¬u2=p:=by omega
      have h2p2:¬u2=p2:=by omega
      have h2q:¬p=u2:=by omega
      have h2q2:¬p2=u2:=by omega
      clear hsz hb5 hwwr;go_wp2_with fail;rw[← HP5.out,← HQ5.out,← HW5.out];obtain⟨s0,s1,s2,-⟩:=HPY.out.cj;have m0:=HFY.out.2 0;have m1:=HFY.out.2 1;have m2:=HFY.out.2 2;have t0:=HKc.out.c3;have t1:=HKc.out.c4;have t2:=HKc.out.c5;refine wp_region_held_drew (S:=fun W=>W.cell? ⟨u2,o2,none⟩=some (.string yk)∧W.cell? ⟨u2,o2+1,none⟩=some (.slice Ye yn yc)∧W.cell? ⟨u2,o2+2,none⟩=some (.slice Yk ym yd)) (by kernel_rfl) (by go_keep) (fun hHeld=>?_);refine Tk 0 69 ?_;refine Tk 1 70 ?_;refine Tk 2 71 ?_;refine Tk 3 72 ?_;refine Tk 4 73 ?_;refine Tc 5 (fun K hK=>?_);go_simp;refine Th hK ?_ (fun hHeld2=>?_)
      ·(try dsimp only);go_keep
      clear hK K hHeld;have hHeld:=hHeld2;clear hHeld2;refine Tk 6 1 ?_;refine wpAnyH_done (by kernel_rfl) ?_ _;clear hHeld s0 s1 s2 m0 m1 m2 t0 t1 t2;obtain⟨W6,hW6⟩:∃ W,W=((((W5.setCell ⟨p2,0,none⟩ (.string yk)).setCell ⟨p2,1,none⟩ (.slice Ye yn yc)).setCell ⟨p2,2,none⟩ (.slice Yk ym yd))).drew:=⟨_,rfl⟩
      have HKn:Hid (Kept [(⟨u1,o1,none⟩,.string xk),(⟨u1,o1+1,none⟩,.slice Xe xn xc),(⟨u1,o1+2,none⟩,.slice Xk xm xd),(⟨u2,o2,none⟩,.string yk),(⟨u2,o2+1,none⟩,.slice Ye yn yc),(⟨u2,o2+2,none⟩,.slice Yk ym yd),(⟨ba,2,none⟩,.slice Ca na ca9),(⟨bb,2,none⟩,.slice Cb nb cb9)] wr W6):=by
       unfold Hid;rw[hW6];exact (HKc.out.past3 (p:=p2) hpw2 (by simp[*]) _ _ _).drew
      have HNX:Hid (Kept [(⟨p2,0,none⟩,.string yk),(⟨p2,1,none⟩,.slice Ye yn yc),(⟨p2,2,none⟩,.slice Yk ym yd)] wr W6):=by
       unfold Hid;rw[hW6];exact ((Kept.nil_of HKc.out.below).set3 (p:=p2) hpw2 (by simp) ⟨_,HPY.out.c0⟩ ⟨_,HPY.out.c1⟩ ⟨_,HPY.out.c2⟩ _ _ _).drew
      have HOX:Hid (Kept [(⟨p,0,none⟩,.string ⟨#[]⟩),(⟨p,1,none⟩,.slice none 0 0),(⟨p,2,none⟩,.slice none 0 0)] wr W6):=by
       unfold Hid;rw[hW6];exact (HPX.out.past3 (p:=p2) hpw2 (by simp[*]) _ _ _).drew
      have HFN:Hid (Free p2 W6):=by unfold Hid;rw[hW6];exact ((((HFY.out.set _ _).set _ _).set _ _)).drew
      have HFO:Hid (Free p W6):=by unfold Hid;rw[hW6];exact ((((HFX.out.set _ _).set _ _).set _ _)).drew
      have HW6:=Lib.hid hW6;clear hW6 HKc HPY HPX HFY HFX;have HKc:=HKn;have HPY:=HNX;have HPX:=HOX;have HFY:=HFN;have HFX:=HFO;clear HKn HNX HOX HFN HFO;obtain⟨t9,ht9⟩:∃ t,joinT dd ca cb none_ yt=t:=⟨_,rfl⟩;obtain⟨o9,ho9⟩:∃ o,stK (joinT dd ca cb) (none) (some (yk,yt))=o:=⟨_,rfl⟩
      have HO9:Hid ((EmptyT t9→o9=none)∧(¬EmptyT t9→o9=some (yk,t9))):=by
       refine⟨fun h=>?_,fun h=>?_⟩
       ·rw[← ho9]
        exact if_pos (show EmptyT (joinT dd ca cb none_ yt) by rw[ht9];exact h)
       ·rw[← ho9]
        refine (if_neg (show ¬EmptyT (joinT dd ca cb none_ yt) by rw[ht9];exact h)).trans ?_;rw[← ht9];rfl
      have HOUT:Hid (out++(o9.toList++mrg keyK ltS (stK (joinT dd ca cb)) ((xk,xt)::a1) b1)=tot):=by
       have h1:=HOUT.out;rw[mrg_gt (key:=keyK) (lt:=ltS) (st:=stK (joinT dd ca cb)) (x:=(xk,xt)) (y:=(yk,yt)) hcmp.1 hcmp.2 a1 b1,ho9]at h1;exact h1
      have HQT:Hid (q≤200000):=by
       have h1:=congrArg List.length HOUT.out;have h2:=HLT.out;have h3:=HNM.out;have h4:=HLO.out;rw[List.length_append]at h1;unfold Hid;omega
      have HST:Hid (Calls Tryz.prog 185 #[.agg #[.string ⟨#[]⟩,.slice none 0 0,.slice none 0 0],.agg #[.string yk,.slice Ye yn yc,.slice Yk ym yd],.pointer (some ⟨ba,0,none⟩),.pointer (some ⟨bb,0,none⟩)] W6 (StayKd yk t9 W6)):=by
       refine stayK_any ⟨#[]⟩ yk none none Ye Yk 0 0 0 0 yn ym yc yd Ca Cb na ca9 nb cb9 ba bb W6 HKc.out.c6 HKc.out.c7 t9 yk (if_pos rfl) fun W hb=>?_;have h1:Below w.heap.size w W:=HKW.out.below.trans ((HKc.out.below.trans (hb.mono HKc.out.below.size)).mono HKW.out.below.size);have h2:Below w.heap.size wr W:=(HKc.out.below.trans (hb.mono HKc.out.below.size)).mono HKW.out.below.size;rw[← ht9];exact HIH.out none_ yt none none Ye Yk Ca Cb 0 0 0 0 yn ym yc yd na ca9 nb cb9 W (.inr rfl) (.inl (HGB.out.2 _ List.mem_cons_self).1) (fun h=>(HGB.out.2 _ List.mem_cons_self).2.2.1 h.2) (by rw[show nodes none_=0 from by unfold none_;rw[nodes_mk];rfl];omega) (HGB.out.2 _ List.mem_cons_self).2.1 HPA.out.1 HPB.out.1 hna hnb ((HPA.out.2.1.below h1).more h1.size) ((HPB.out.2.1.below h1).more h1.size) HPA.out.2.2 HPB.out.2.2 (RdT.none _ _ _ _) (RdT.more h1.size _ (RdT.below HRTy.out h2))
      obtain⟨B9,hB9⟩:∃ z,z=W6.heap.size:=⟨_,rfl⟩
      have HB9:Hid (wr.heap.size≤B9):=by unfold Hid;rw[hB9];exact HKc.out.below.size
      clear ho9 ht9;rw[← HW6.out];obtain⟨k0,k1,k2,-⟩:=HPX.out.cj;have k3:=HPY.out.c0;have k4:=HPY.out.c1;have k5:=HPY.out.c2;go_wp2_with fail;refine HST.out.mono ?_;rintro e v6 ⟨Ze,zn,zc,Zk,zm,zd,rfl,hro,hb6⟩;have HRO:Hid (RdO v6 (fun b=>B9≤b) t9 ⟨Ze,zn,zc⟩ ⟨Zk,zm,zd⟩):=RdO.mono (fun b hb _=>by omega) _ hro;have hlz:t9.es.length=zn∧t9.ks.length=zm:=rd_lens2 hro;have HB6:=Lib.hid (HKc.out.below.trans (hb6.mono HKc.out.below.size));have hs6:wr.heap.size≤v6.heap.size:=HB6.out.size;have hbz:Below v6.heap.size v6 (v6.alloc (.cells #[.string yk,.slice Ze zn zc,.slice Zk zm zd] 134)):=Dt.box_below _ _ _;have HB8:Hid (Below wr.heap.size wr (v6.alloc (.cells #[.string yk,.slice Ze zn zc,.slice Zk zm zd] 134))):=HB6.out.trans (hbz.mono hs6)
      have hs8:((v6.alloc (.cells #[.string yk,.slice Ze zn zc,.slice Zk zm zd] 134))).heap.size=v6.heap.size+1:=by simp
      have HRO8:Hid (RdO (v6.alloc (.cells #[.string yk,.slice Ze zn zc,.slice Zk zm zd] 134)) (fun b=>B9≤b) t9 ⟨Ze,zn,zc⟩ ⟨Zk,zm,zd⟩):=RdO.later HRO.out hbz;clear hro hB9 hb6 hbz k0 k1 k2 k3 k4 k5 HKc HPX HPY HFX HFY HRO
      by_cases hem:EmptyT t9
      ·have hfe:decide (zn=0∧zm=0)=true:=decide_eq_true ⟨by rw[← hlz.1,hem.1];rfl,by rw[← hlz.2,hem.2];rfl⟩
       obtain rfl:o9=none:=by exact HO9.out.1 hem
       clear hlz hem;have HOUT:Hid (out++mrg keyK ltS (stK (joinT dd ca cb)) ((xk,xt)::a1) b1=tot):=HOUT.out;go_wp2_with fail;obtain⟨w9,hw9⟩:∃ W,W=(v6.alloc (.cells #[.string yk,.slice Ze zn zc,.slice Zk zm zd] 134)):=⟨_,rfl⟩;rw[← hw9]at HB8 ⊢;clear hw9 hs8;go_roundw
       case rel=>exact⟨_,b1,out,kr,some ⟨u1,o1,none⟩,B1,Ax,n,m1,q,c,(d-1),cx,rfl,rfl,rfl,by omega,by omega,HLA.out,HRA.out.below (HB8.out.mono HKW.out.below.size),HGA.out,HB1.out.1,HB1.out.2.below (HB8.out.mono HKW.out.below.size),⟨(List.pairwise_cons.1 HGB.out.1).2,fun e he=>HGB.out.2 e (List.mem_cons_of_mem _ he)⟩,HOUT.out,HLO.out,HOW.out.later HB8.out,HKW.out.low2 HLOW.out (HB8.out.mono HKW.out.below.size)⟩
       case measure=>simp[cntOf];omega
      ·have hfe:decide (zn=0∧zm=0)=false:=decide_eq_false fun h=>hem ⟨List.length_eq_zero_iff.1 (by rw[hlz.1];exact h.1),List.length_eq_zero_iff.1 (by rw[hlz.2];exact h.2)⟩
       obtain rfl:o9=some (yk,t9):=by exact HO9.out.2 hem
       clear hlz hem;obtain⟨A6,c6,w6,r6,HO6,hb6,_⟩:=KidRow.push2 (k:=(yk,⟨Ze,zn,zc⟩,⟨Zk,zm,zd⟩)) Tryz.underlying33 infoK rfl (by omega) (HOW.out.later HB8.out) (v6.heap.size+1) hs8 (Nat.le_trans HKW.out.below.size HB8.out.size) (RdO.mono (fun b hb _=>⟨by have h1:=HB9.out;have h2:=HKW.out.below.size;have h3:B9≤b:=hb;omega,fun e=>by have h1:=(HOW.out.own.row.lt b e).2;have h2:=HB9.out;have h3:B9≤b:=hb;omega⟩) _ HRO8.out) (by have:=HQT.out;omega) #[.string yk,.slice Ze zn zc,.slice Zk zm zd] rfl;have Hrun:=Lib.hid r6;have HO7:=Lib.hid HO6;have hww:=HKW.out.below.size;have HB7:Hid (Below w.heap.size wr w6):=(HB8.out.mono hww).trans hb6
       have HOUT:Hid ((out++[(yk,t9)])++mrg keyK ltS (stK (joinT dd ca cb)) ((xk,xt)::a1) b1=tot):=by
        have h1:=HOUT.out;rw[← List.append_assoc]at h1;exact h1
       have HLO:Hid ((out++[((yk,t9):Kd)]).length=q+1):=by unfold Hid;rw[List.length_append,HLO.out];rfl
       clear r6 HO6 hb6 hs8 hww;go_wp2_with (at_builtin;refine Lib.wpList_append_run _ rfl _ _ _ _ rfl _ _ rfl rfl _ _ Hrun.out ?_);go_roundw
       case rel=>exact⟨_,b1,(out++[((yk,t9):Kd)]),_,some ⟨u1,o1,none⟩,B1,A6,n,m1,(q+1),c,(d-1),c6,rfl,rfl,by go_num,by omega,by omega,HLA.out,HRA.out.below HB7.out,HGA.out,HB1.out.1,HB1.out.2.below HB7.out,⟨(List.pairwise_cons.1 HGB.out.1).2,fun e he=>HGB.out.2 e (List.mem_cons_of_mem _ he)⟩,HOUT.out,HLO.out,HO7.out,HKW.out.low2 HLOW.out HB7.out⟩
       case measure=>simp[cntOf];omega
     ·have hcmp:=And.intro hlt hgt
      have HKc:=Lib.hid ((((((((((Kept.nil wr).cons_of HKW.out.c1).cons_of HKW.out.c0).cons_of y2).cons_of y1).cons_of y0).cons_of x2).cons_of x1).cons_of x0).drew);obtain⟨c9,hc9⟩:∃ z,cmpS xk yk=z:=⟨_,rfl⟩;have HC9:=Lib.hid hc9;have g1:decide (c9≤0)=true:=decide_eq_true (by have h1:¬cmpS xk yk<0:=fun h=>hcmp.1 ((cmpS_lt xk yk).1 h);have h2:¬0<cmpS xk yk:=fun h=>hcmp.2 ((cmpS_gt xk yk).1 h);omega);have g2:decide (0≤c9)=true:=decide_eq_true (by have h1:¬cmpS xk yk<0:=fun h=>hcmp.1 ((cmpS_lt xk yk).1 h);have h2:¬0<cmpS xk yk:=fun h=>hcmp.2 ((cmpS_gt xk yk).1 h);omega);clear hc9;go_wp2_with fail;refine wp_region_held_drew (S:=fun W=>W.cell? ⟨u1,o1,none⟩=some (.string xk)∧W.cell? ⟨u1,o1+1,none⟩=some (.slice Xe xn xc)∧W.cell? ⟨u1,o1+2,none⟩=some (.slice Xk xm xd)∧W.cell? ⟨u2,o2,none⟩=some (.string yk)∧W.cell? ⟨u2,o2+1,none⟩=some (.slice Ye yn yc)∧W.cell? ⟨u2,o2+2,none⟩=some (.slice Yk ym yd)) (by kernel_rfl) (by exact⟨HKc.out.c0,HKc.out.c1,HKc.out.c2,HKc.out.c3,HKc.out.c4,HKc.out.c5⟩) (fun hHeld=>?_)
      refine Tk 0 24 ?_;refine Tk 1 25 ?_;refine Tk 2 26 ?_;refine Tk 3 27 ?_;refine Tk 4 28 ?_;refine Tk 5 29 ?_;refine Tk 6 30 ?_;refine Tk 7 31 ?_;refine Tk 8 32 ?_;refine Tk 9 33 ?_;refine Tk 10 34 ?_;refine Tk 11 35 ?_;refine Tk 12 36 ?_;refine Tk 13 37 ?_;refine Tk 14 38 ?_;refine Tc 15 (fun K hK=>?_);go_simp;(go_at_call 183;refine (byKey_any xk yk Xe Xk xn xm xc xd Ye Yk yn ym yc yd _).mono ?_);rw[HC9.out];rintro e v1 ⟨rfl,hb9⟩;have HKc:=Lib.hid (HKc.out.later hb9);clear hb9;clear hHeld;refine Th hK ?_ (fun hHeld=>?_)
      ·exact⟨HKc.out.c0,HKc.out.c1,HKc.out.c2,HKc.out.c3,HKc.out.c4,HKc.out.c5⟩
      clear hK K;refine Tk 16 40 ?_;refine Tk 17 41 ?_;refine Tk 18 42 ?_;refine Tk 19 10 ?_;refine wpAnyH_done (by kernel_rfl) ?_ _;clear hHeld;go_wp2_with fail;have HKc:=Lib.hid (HKc.out.drew);refine wp_region_held_drew (S:=fun W=>W.cell? ⟨u1,o1,none⟩=some (.string xk)∧W.cell? ⟨u1,o1+1,none⟩=some (.slice Xe xn xc)∧W.cell? ⟨u1,o1+2,none⟩=some (.slice Xk xm xd)∧W.cell? ⟨u2,o2,none⟩=some (.string yk)∧W.cell? ⟨u2,o2+1,none⟩=some (.slice Ye yn yc)∧W.cell? ⟨u2,o2+2,none⟩=some (.slice Yk ym yd)) (by kernel_rfl) (by exact⟨HKc.out.c0,HKc.out.c1,HKc.out.c2,HKc.out.c3,HKc.out.c4,HKc.out.c5⟩) (fun hHeld=>?_);refine Tk 0 43 ?_;refine Tk 1 44 ?_;refine Tk 2 45 ?_;refine Tk 3 46 ?_;refine Tk 4 47 ?_;refine Tk 5 48 ?_;refine Tk 6 49 ?_;refine Tk 7 50 ?_;refine Tk 8 51 ?_;refine Tk 9 52 ?_;refine Tk 10 53 ?_;refine Tk 11 54 ?_
      refine Tk 12 55 ?_;refine Tk 13 56 ?_;refine Tk 14 57 ?_;refine Tc 15 (fun K hK=>?_);go_simp;(go_at_call 183;refine (byKey_any xk yk Xe Xk xn xm xc xd Ye Yk yn ym yc yd _).mono ?_);rw[HC9.out];rintro e v2 ⟨rfl,hb9⟩;have HKc:=Lib.hid (HKc.out.later hb9);clear hb9;clear hHeld;refine Th hK ?_ (fun hHeld=>?_)
      ·exact⟨HKc.out.c0,HKc.out.c1,HKc.out.c2,HKc.out.c3,HKc.out.c4,HKc.out.c5⟩
      clear hK K;refine Tk 16 59 ?_;refine Tk 17 60 ?_;refine Tk 18 61 ?_;refine Tk 19 11 ?_;refine wpAnyH_done (by kernel_rfl) ?_ _;clear hHeld;have hsz:=HKc.out.below.size;obtain⟨W5,p,p2,HW5,HP5,HQ5,HPX,HPY,HFX,HFY,hb5⟩:=boxK2 (v2);have HKc:=Lib.hid (HKc.out.later hb5);have HPX:=Lib.hid (HPX.out.rebase HKc.out.below);have HPY:=Lib.hid (HPY.out.rebase HKc.out.below)
      have hpw:wr.heap.size≤p:=by have:=HP5.out;omega
      have hpw2:wr.heap.size≤p2:=by have:=HQ5.out;omega
      have hpp:¬p=p2:=by have:=HQ5.out;omega
      have hpp2:¬p2=p:=by omega
      have hwwr:=HKW.out.below.size
      have hap:¬ba=p:=by have:=HBA.out;omega
      have hap2:¬ba=p2:=by have:=HBA.out;omega
      have hbp:¬bb=p:=by have:=HBB.out;omega
      have hbp2:¬bb=p2:=by have:=HBB.out;omega
      have h1p:¬u1=p:=by omega
      have h1p2:¬u1=p2:=by omega
      have h1q:¬p=u1:=by omega
      have h1q2:¬p2=u1:=by omega
      have h2p:¬u2=p:=by omega
      have h2p2:¬u2=p2:=by omega
      have h2q:¬p=u2:=by omega
      have h2q2:¬p2=u2:=by omega
      clear hsz hb5 hwwr;go_wp2_with fail;rw[← HP5.out,← HQ5.out,← HW5.out];obtain⟨s0,s1,s2,-⟩:=HPX.out.cj;have m0:=HFX.out.2 0;have m1:=HFX.out.2 1;have m2:=HFX.out.2 2;obtain⟨t0,t1,t2,-⟩:=HKc.out.cj;refine wp_region_held_drew (S:=fun W=>W.cell? ⟨u1,o1,none⟩=some (.string xk)∧W.cell? ⟨u1,o1+1,none⟩=some (.slice Xe xn xc)∧W.cell? ⟨u1,o1+2,none⟩=some (.slice Xk xm xd)) (by kernel_rfl) (by go_keep) (fun hHeld=>?_);refine Tk 0 63 ?_;refine Tk 1 64 ?_;refine Tk 2 65 ?_;refine Tk 3 66 ?_;refine Tk 4 67 ?_;refine Tc 5 (fun K hK=>?_);go_simp;refine Th hK ?_ (fun hHeld2=>?_)
      ·(try dsimp only);go_keep
      clear hK K hHeld;have hHeld:=hHeld2;clear hHeld2;refine Tk 6 0 ?_;refine wpAnyH_done (by kernel_rfl) ?_ _;clear hHeld s0 s1 s2 m0 m1 m2 t0 t1 t2;obtain⟨W6,hW6⟩:∃ W,W=((((W5.setCell ⟨p,0,none⟩ (.string xk)).setCell ⟨p,1,none⟩ (.slice Xe xn xc)).setCell ⟨p,2,none⟩ (.slice Xk xm xd))).drew:=⟨_,rfl⟩
      have HKn:Hid (Kept [(⟨u1,o1,none⟩,.string xk),(⟨u1,o1+1,none⟩,.slice Xe xn xc),(⟨u1,o1+2,none⟩,.slice Xk xm xd),(⟨u2,o2,none⟩,.string yk),(⟨u2,o2+1,none⟩,.slice Ye yn yc),(⟨u2,o2+2,none⟩,.slice Yk ym yd),(⟨ba,2,none⟩,.slice Ca na ca9),(⟨bb,2,none⟩,.slice Cb nb cb9)] wr W6):=by
       unfold Hid;rw[hW6];exact (HKc.out.past3 (p:=p) hpw (by simp[*]) _ _ _).drew
      have HNX:Hid (Kept [(⟨p,0,none⟩,.string xk),(⟨p,1,none⟩,.slice Xe xn xc),(⟨p,2,none⟩,.slice Xk xm xd)] wr W6):=by
       unfold Hid;rw[hW6];exact ((Kept.nil_of HKc.out.below).set3 (p:=p) hpw (by simp) ⟨_,HPX.out.c0⟩ ⟨_,HPX.out.c1⟩ ⟨_,HPX.out.c2⟩ _ _ _).drew
      have HOX:Hid (Kept [(⟨p2,0,none⟩,.string ⟨#[]⟩),(⟨p2,1,none⟩,.slice none 0 0),(⟨p2,2,none⟩,.slice none 0 0)] wr W6):=by
       unfold Hid;rw[hW6];exact (HPY.out.past3 (p:=p) hpw (by simp[*]) _ _ _).drew
      have HFN:Hid (Free p W6):=by unfold Hid;rw[hW6];exact ((((HFX.out.set _ _).set _ _).set _ _)).drew
      have HFO:Hid (Free p2 W6):=by unfold Hid;rw[hW6];exact ((((HFY.out.set _ _).set _ _).set _ _)).drew
      have HW6:=Lib.hid hW6;clear hW6 HKc HPX HPY HFX HFY;have HKc:=HKn;have HPX:=HNX;have HPY:=HOX;have HFX:=HFN;have HFY:=HFO;clear HKn HNX HOX HFN HFO;rw[← HW6.out];go_wp2_with fail;obtain⟨s0,s1,s2,-⟩:=HPY.out.cj;have m0:=HFY.out.2 0;have m1:=HFY.out.2 1;have m2:=HFY.out.2 2;have t0:=HKc.out.c3;have t1:=HKc.out.c4;have t2:=HKc.out.c5;refine wp_region_held_drew (S:=fun W=>W.cell? ⟨u2,o2,none⟩=some (.string yk)∧W.cell? ⟨u2,o2+1,none⟩=some (.slice Ye yn yc)∧W.cell? ⟨u2,o2+2,none⟩=some (.slice Yk ym yd)) (by kernel_rfl) (by go_keep) (fun hHeld=>?_);refine Tk 0 69 ?_;refine Tk 1 70 ?_;refine Tk 2 71 ?_;refine Tk 3 72 ?_;refine Tk 4 73 ?_;refine Tc 5 (fun K hK=>?_);go_simp;refine Th hK ?_ (fun hHeld2=>?_)
      ·(try dsimp only);go_keep
      clear hK K hHeld;have hHeld:=hHeld2;clear hHeld2;refine Tk 6 1 ?_;refine wpAnyH_done (by kernel_rfl) ?_ _;clear hHeld s0 s1 s2 m0 m1 m2 t0 t1 t2;obtain⟨W7,hW7⟩:∃ W,W=((((W6.setCell ⟨p2,0,none⟩ (.string yk)).setCell ⟨p2,1,none⟩ (.slice Ye yn yc)).setCell ⟨p2,2,none⟩ (.slice Yk ym yd))).drew:=⟨_,rfl⟩
      have HKn:Hid (Kept [(⟨u1,o1,none⟩,.string xk),(⟨u1,o1+1,none⟩,.slice Xe xn xc),(⟨u1,o1+2,none⟩,.slice Xk xm xd),(⟨u2,o2,none⟩,.string yk),(⟨u2,o2+1,none⟩,.slice Ye yn yc),(⟨u2,o2+2,none⟩,.slice Yk ym yd),(⟨ba,2,none⟩,.slice Ca na ca9),(⟨bb,2,none⟩,.slice Cb nb cb9)] wr W7):=by
       unfold Hid;rw[hW7];exact (HKc.out.past3 (p:=p2) hpw2 (by simp[*]) _ _ _).drew
      have HNX:Hid (Kept [(⟨p2,0,none⟩,.string yk),(⟨p2,1,none⟩,.slice Ye yn yc),(⟨p2,2,none⟩,.slice Yk ym yd)] wr W7):=by
       unfold Hid;rw[hW7];exact ((Kept.nil_of HKc.out.below).set3 (p:=p2) hpw2 (by simp) ⟨_,HPY.out.c0⟩ ⟨_,HPY.out.c1⟩ ⟨_,HPY.out.c2⟩ _ _ _).drew
      have HOX:Hid (Kept [(⟨p,0,none⟩,.string xk),(⟨p,1,none⟩,.slice Xe xn xc),(⟨p,2,none⟩,.slice Xk xm xd)] wr W7):=by
       unfold Hid;rw[hW7];exact (HPX.out.past3 (p:=p2) hpw2 (by simp[*]) _ _ _).drew
      have HFN:Hid (Free p2 W7):=by unfold Hid;rw[hW7];exact ((((HFY.out.set _ _).set _ _).set _ _)).drew
      have HFO:Hid (Free p W7):=by unfold Hid;rw[hW7];exact ((((HFX.out.set _ _).set _ _).set _ _)).drew
      have HW7:=Lib.hid hW7;clear hW7 HKc HPY HPX HFY HFX;have HKc:=HKn;have HPY:=HNX;have HPX:=HOX;have HFY:=HFN;have HFX:=HFO;clear HKn HNX HOX HFN HFO;obtain⟨t9,ht9⟩:∃ t,joinT dd ca cb xt yt=t:=⟨_,rfl⟩;obtain⟨o9,ho9⟩:∃ o,stK (joinT dd ca cb) (some (xk,xt)) (some (yk,yt))=o:=⟨_,rfl⟩
      have HO9:Hid ((EmptyT t9→o9=none)∧(¬EmptyT t9→o9=some (xk,t9))):=by
       refine⟨fun h=>?_,fun h=>?_⟩
       ·rw[← ho9]
        exact if_pos (show EmptyT (joinT dd ca cb xt yt) by rw[ht9];exact h)
       ·rw[← ho9]
        refine (if_neg (show ¬EmptyT (joinT dd ca cb xt yt) by rw[ht9];exact h)).trans ?_;rw[← ht9];rfl
      have HOUT:Hid (out++(o9.toList++mrg keyK ltS (stK (joinT dd ca cb)) a1 b1)=tot):=by
       have h1:=HOUT.out;rw[mrg_eq (key:=keyK) (lt:=ltS) (st:=stK (joinT dd ca cb)) (x:=(xk,xt)) (y:=(yk,yt)) hcmp.1 hcmp.2 a1 b1,ho9]at h1;exact h1
      have HQT:Hid (q≤200000):=by
       have h1:=congrArg List.length HOUT.out;have h2:=HLT.out;have h3:=HNM.out;have h4:=HLO.out;rw[List.length_append]at h1;unfold Hid;omega
      have HST:Hid (Calls Tryz.prog 185 #[.agg #[.string xk,.slice Xe xn xc,.slice Xk xm xd],.agg #[.string yk,.slice Ye yn yc,.slice Yk ym yd],.pointer (some ⟨ba,0,none⟩),.pointer (some ⟨bb,0,none⟩)] W7 (StayKd xk t9 W7)):=by
       refine stayK_any xk yk Xe Xk Ye Yk xn xm xc xd yn ym yc yd Ca Cb na ca9 nb cb9 ba bb W7 HKc.out.c6 HKc.out.c7 t9 xk (by have h1:1≤xk.size:=(HGA.out.2 _ List.mem_cons_self).2.2.2;rw[if_neg (by omega)]) fun W hb=>?_;have h1:Below w.heap.size w W:=HKW.out.below.trans ((HKc.out.below.trans (hb.mono HKc.out.below.size)).mono HKW.out.below.size);have h2:Below w.heap.size wr W:=(HKc.out.below.trans (hb.mono HKc.out.below.size)).mono HKW.out.below.size;rw[← ht9];exact HIH.out xt yt Xe Xk Ye Yk Ca Cb xn xm xc xd yn ym yc yd na ca9 nb cb9 W (.inl (HGA.out.2 _ List.mem_cons_self).1) (.inl (HGB.out.2 _ List.mem_cons_self).1) (fun h=>(HGA.out.2 _ List.mem_cons_self).2.2.1 h.1) (HGA.out.2 _ List.mem_cons_self).2.1 (HGB.out.2 _ List.mem_cons_self).2.1 HPA.out.1 HPB.out.1 hna hnb ((HPA.out.2.1.below h1).more h1.size) ((HPB.out.2.1.below h1).more h1.size) HPA.out.2.2 HPB.out.2.2 (RdT.more h1.size _ (RdT.below HRTx.out h2)) (RdT.more h1.size _ (RdT.below HRTy.out h2))
      obtain⟨B9,hB9⟩:∃ z,z=W7.heap.size:=⟨_,rfl⟩
      have HB9:Hid (wr.heap.size≤B9):=by unfold Hid;rw[hB9];exact HKc.out.below.size
      clear ho9 ht9;rw[← HW7.out];obtain⟨k0,k1,k2,-⟩:=HPX.out.cj;have k3:=HPY.out.c0;have k4:=HPY.out.c1;have k5:=HPY.out.c2;go_wp2_with fail;refine HST.out.mono ?_;rintro e v6 ⟨Ze,zn,zc,Zk,zm,zd,rfl,hro,hb6⟩;have HRO:Hid (RdO v6 (fun b=>B9≤b) t9 ⟨Ze,zn,zc⟩ ⟨Zk,zm,zd⟩):=RdO.mono (fun b hb _=>by omega) _ hro;have hlz:t9.es.length=zn∧t9.ks.length=zm:=rd_lens2 hro;have HB6:=Lib.hid (HKc.out.below.trans (hb6.mono HKc.out.below.size));have hs6:wr.heap.size≤v6.heap.size:=HB6.out.size;have hbz:Below v6.heap.size v6 (v6.alloc (.cells #[.string xk,.slice Ze zn zc,.slice Zk zm zd] 134)):=Dt.box_below _ _ _;have HB8:Hid (Below wr.heap.size wr (v6.alloc (.cells #[.string xk,.slice Ze zn zc,.slice Zk zm zd] 134))):=HB6.out.trans (hbz.mono hs6)
      have hs8:((v6.alloc (.cells #[.string xk,.slice Ze zn zc,.slice Zk zm zd] 134))).heap.size=v6.heap.size+1:=by simp
      have HRO8:Hid (RdO (v6.alloc (.cells #[.string xk,.slice Ze zn zc,.slice Zk zm zd] 134)) (fun b=>B9≤b) t9 ⟨Ze,zn,zc⟩ ⟨Zk,zm,zd⟩):=RdO.later HRO.out hbz;clear hro hB9 hb6 hbz k0 k1 k2 k3 k4 k5 HKc HPX HPY HFX HFY HRO
      by_cases hem:EmptyT t9
      ·have hfe:decide (zn=0∧zm=0)=true:=decide_eq_true ⟨by rw[← hlz.1,hem.1];rfl,by rw[← hlz.2,hem.2];rfl⟩
       obtain rfl:o9=none:=by exact HO9.out.1 hem
       clear hlz hem;have HOUT:Hid (out++mrg keyK ltS (stK (joinT dd ca cb)) a1 b1=tot):=HOUT.out;go_wp2_with fail;obtain⟨w9,hw9⟩:∃ W,W=(v6.alloc (.cells #[.string xk,.slice Ze zn zc,.slice Zk zm zd] 134)):=⟨_,rfl⟩;rw[← hw9]at HB8 ⊢;clear hw9 hs8;go_roundw
       case rel=>exact⟨a1,b1,out,kr,A1,B1,Ax,n1,m1,q,(c-1),(d-1),cx,rfl,rfl,rfl,by omega,by omega,HA1.out.1,HA1.out.2.below (HB8.out.mono HKW.out.below.size),⟨(List.pairwise_cons.1 HGA.out.1).2,fun e he=>HGA.out.2 e (List.mem_cons_of_mem _ he)⟩,HB1.out.1,HB1.out.2.below (HB8.out.mono HKW.out.below.size),⟨(List.pairwise_cons.1 HGB.out.1).2,fun e he=>HGB.out.2 e (List.mem_cons_of_mem _ he)⟩,HOUT.out,HLO.out,HOW.out.later HB8.out,HKW.out.low2 HLOW.out (HB8.out.mono HKW.out.below.size)⟩
       case measure=>simp[cntOf];omega
      ·have hfe:decide (zn=0∧zm=0)=false:=decide_eq_false fun h=>hem ⟨List.length_eq_zero_iff.1 (by rw[hlz.1];exact h.1),List.length_eq_zero_iff.1 (by rw[hlz.2];exact h.2)⟩
       obtain rfl:o9=some (xk,t9):=by exact HO9.out.2 hem
       clear hlz hem;obtain⟨A6,c6,w6,r6,HO6,hb6,_⟩:=KidRow.push2 (k:=(xk,⟨Ze,zn,zc⟩,⟨Zk,zm,zd⟩)) Tryz.underlying33 infoK rfl (by omega) (HOW.out.later HB8.out) (v6.heap.size+1) hs8 (Nat.le_trans HKW.out.below.size HB8.out.size) (RdO.mono (fun b hb _=>⟨by have h1:=HB9.out;have h2:=HKW.out.below.size;have h3:B9≤b:=hb;omega,fun e=>by have h1:=(HOW.out.own.row.lt b e).2;have h2:=HB9.out;have h3:B9≤b:=hb;omega⟩) _ HRO8.out) (by have:=HQT.out;omega) #[.string xk,.slice Ze zn zc,.slice Zk zm zd] rfl;have Hrun:=Lib.hid r6;have HO7:=Lib.hid HO6;have hww:=HKW.out.below.size;have HB7:Hid (Below w.heap.size wr w6):=(HB8.out.mono hww).trans hb6
       have HOUT:Hid ((out++[(xk,t9)])++mrg keyK ltS (stK (joinT dd ca cb)) a1 b1=tot):=by
        have h1:=HOUT.out;rw[← List.append_assoc]at h1;exact h1
       have HLO:Hid ((out++[((xk,t9):Kd)]).length=q+1):=by unfold Hid;rw[List.length_append,HLO.out];rfl
       clear r6 HO6 hb6 hs8 hww;go_wp2_with (at_builtin;refine Lib.wpList_append_run _ rfl _ _ _ _ rfl _ _ rfl rfl _ _ Hrun.out ?_);go_roundw
       case rel=>exact⟨a1,b1,(out++[((xk,t9):Kd)]),_,A1,B1,A6,n1,m1,(q+1),(c-1),(d-1),c6,rfl,rfl,by go_num,by omega,by omega,HA1.out.1,HA1.out.2.below HB7.out,⟨(List.pairwise_cons.1 HGA.out.1).2,fun e he=>HGA.out.2 e (List.mem_cons_of_mem _ he)⟩,HB1.out.1,HB1.out.2.below HB7.out,⟨(List.pairwise_cons.1 HGB.out.1).2,fun e he=>HGB.out.2 e (List.mem_cons_of_mem _ he)⟩,HOUT.out,HLO.out,HO7.out,HKW.out.low2 HLOW.out HB7.out⟩
       case measure=>simp[cntOf];omega
   ·obtain rfl:m=0:=by omega
    obtain rfl:b=[]:=List.length_eq_zero_iff.1 HLB.out
    obtain⟨x,a1,rfl⟩:∃ x l,a=x::l:=by
     cases a with
     | nil=>have h1:=HLA.out;simp at h1;omega
     | cons x l=>exact⟨x,l,rfl⟩
    obtain⟨xk,xt⟩:=x;obtain⟨u1,o1,rfl,hu1,⟨⟨Xe,xn,xc⟩,⟨Xk,xm,xd⟩,x0,x1,x2,hrtx⟩⟩:=HRA.out.head (by omega);dsimp only at x1 x2;have HRTx:=Lib.hid hrtx;have hwu1:u1<wr.heap.size:=World.block_lt_of_cell? wr _ x0;obtain⟨n1,hn1⟩:∃ z,z=n-1:=⟨_,rfl⟩
    obtain⟨A1,hA1⟩:∃ z,z=(if c=1 then some (⟨u1,o1,none⟩:Addr)else (some (⟨u1,o1,none⟩:Addr)).map (·.add (1*3))):=⟨_,rfl⟩
    have hcutx:∀ W,(Instr.slice 33 (.slice (some ⟨u1,o1,none⟩) n c) (some (.int .i64 1)) none none).run Tryz.prog W = .ok (.slice A1 n1 (c-1)) W:=fun W=>by
     have h1:=run_cut_from (P:=Tryz.prog) 33 134 3 Tryz.underlying33 hi0 hz1 (some ⟨u1,o1,none⟩) n c 1 (by omega) W;rw[← hA1,← hn1]at h1;exact h1
    have HA1:Hid (a1.length=n1∧RdK wr w.heap.size A1 n1 (c-1) a1):=by
     have h2:=HLA.out;refine⟨by rw[hn1];simp at h2;omega,?_⟩;rw[hA1,hn1];exact HRA.out.tail (by omega)
    have fna:((n:Int)==0)=false:=by rw[beq_eq_false_iff_ne];omega
    have fnb:decide ((0:Int)<(n:Int))=true:=decide_eq_true (by omega)
    have hnn1:n1+1=n:=by omega
    clear hn1 hA1 hrtx;have HKc:=Lib.hid (((((((Kept.nil wr).cons_of HKW.out.c1).cons_of HKW.out.c0).cons_of x2).cons_of x1).cons_of x0).drew);go_wp2_with fail;refine wp_region_held_drew (S:=fun W=>W.cell? ⟨u1,o1,none⟩=some (.string xk)∧W.cell? ⟨u1,o1+1,none⟩=some (.slice Xe xn xc)∧W.cell? ⟨u1,o1+2,none⟩=some (.slice Xk xm xd)) (by kernel_rfl) (by exact⟨HKc.out.c0,HKc.out.c1,HKc.out.c2⟩) (fun hHeld=>?_);refine Tk 0 24 ?_;refine Tk 1 25 ?_;refine Tk 2 26 ?_;refine Tk 3 27 ?_;refine Tn 4 28 ?_;refine Tn 5 29 ?_;refine Tn 6 30 ?_;refine Tn 7 31 ?_;refine Tn 8 32 ?_;refine Tn 9 33 ?_;refine Tn 10 34 ?_;refine Tn 11 35 ?_;refine Tn 12 36 ?_;refine Tn 13 37 ?_;refine Tn 14 38 ?_;refine Tn 15 39 ?_;refine Tn 16 40 ?_;refine Tn 17 41 ?_;refine Tk 18 42 ?_;refine Tk 19 10 ?_;refine wpAnyH_done (by kernel_rfl) ?_ _;clear hHeld;go_wp2_with fail
    have HKc:=Lib.hid (HKc.out.drew);refine wp_region_held_drew (S:=fun W=>W.cell? ⟨u1,o1,none⟩=some (.string xk)∧W.cell? ⟨u1,o1+1,none⟩=some (.slice Xe xn xc)∧W.cell? ⟨u1,o1+2,none⟩=some (.slice Xk xm xd)) (by kernel_rfl) (by exact⟨HKc.out.c0,HKc.out.c1,HKc.out.c2⟩) (fun hHeld=>?_);refine Tk 0 43 ?_;refine Tk 1 44 ?_;refine Tk 2 45 ?_;refine Tk 3 46 ?_;refine Tk 4 47 ?_;refine Tk 5 48 ?_;refine Tk 6 49 ?_;refine Tk 7 50 ?_;refine Tn 8 51 ?_;refine Tn 9 52 ?_;refine Tn 10 53 ?_;refine Tn 11 54 ?_;refine Tn 12 55 ?_;refine Tn 13 56 ?_;refine Tn 14 57 ?_;refine Tn 15 58 ?_;refine Tn 16 59 ?_;refine Tk 17 60 ?_;refine Tk 18 61 ?_;refine Tk 19 11 ?_;refine wpAnyH_done (by kernel_rfl) ?_ _;clear hHeld;have hsz:=HKc.out.below.size;obtain⟨W5,p,p2,HW5,HP5,HQ5,HPX,HPY,HFX,HFY,hb5⟩:=boxK2 (wr.drew.drew);have HKc:=Lib.hid (HKc.out.later hb5)
    have HPX:=Lib.hid (HPX.out.rebase HKc.out.below);have HPY:=Lib.hid (HPY.out.rebase HKc.out.below);have HW5:Hid (W5=((wr.alloc (.cells #[.string ⟨#[]⟩,.slice none 0 0,.slice none 0 0] 134)).alloc (.cells #[.string ⟨#[]⟩,.slice none 0 0,.slice none 0 0] 134)).drew.drew):=HW5.out;have HP5:Hid (p=wr.heap.size):=HP5.out
    have hpw:wr.heap.size≤p:=by have:=HP5.out;omega
    have hpw2:wr.heap.size≤p2:=by have:=HQ5.out;omega
    have hpp:¬p=p2:=by have:=HQ5.out;omega
    have hpp2:¬p2=p:=by omega
    have hwwr:=HKW.out.below.size
    have hap:¬ba=p:=by have:=HBA.out;omega
    have hap2:¬ba=p2:=by have:=HBA.out;omega
    have hbp:¬bb=p:=by have:=HBB.out;omega
    have hbp2:¬bb=p2:=by have:=HBB.out;omega
    have h1p:¬u1=p:=by omega
    have h1p2:¬u1=p2:=by omega
    have h1q:¬p=u1:=by omega
    have h1q2:¬p2=u1:=by omega
    clear hsz hb5 hwwr;go_wp2_with fail;rw[← HP5.out,← HQ5.out,← HW5.out];obtain⟨s0,s1,s2,-⟩:=HPX.out.cj;have m0:=HFX.out.2 0;have m1:=HFX.out.2 1;have m2:=HFX.out.2 2;obtain⟨t0,t1,t2,-⟩:=HKc.out.cj;refine wp_region_held_drew (S:=fun W=>W.cell? ⟨u1,o1,none⟩=some (.string xk)∧W.cell? ⟨u1,o1+1,none⟩=some (.slice Xe xn xc)∧W.cell? ⟨u1,o1+2,none⟩=some (.slice Xk xm xd)) (by kernel_rfl) (by go_keep) (fun hHeld=>?_);refine Tk 0 63 ?_;refine Tk 1 64 ?_;refine Tk 2 65 ?_;refine Tk 3 66 ?_;refine Tk 4 67 ?_;refine Tc 5 (fun K hK=>?_);go_simp;refine Th hK ?_ (fun hHeld2=>?_)
    ·(try dsimp only);go_keep
    clear hK K hHeld;have hHeld:=hHeld2;clear hHeld2;refine Tk 6 0 ?_;refine wpAnyH_done (by kernel_rfl) ?_ _;clear hHeld s0 s1 s2 m0 m1 m2 t0 t1 t2;obtain⟨W6,hW6⟩:∃ W,W=((((W5.setCell ⟨p,0,none⟩ (.string xk)).setCell ⟨p,1,none⟩ (.slice Xe xn xc)).setCell ⟨p,2,none⟩ (.slice Xk xm xd))).drew:=⟨_,rfl⟩
    have HKn:Hid (Kept [(⟨u1,o1,none⟩,.string xk),(⟨u1,o1+1,none⟩,.slice Xe xn xc),(⟨u1,o1+2,none⟩,.slice Xk xm xd),(⟨ba,2,none⟩,.slice Ca na ca9),(⟨bb,2,none⟩,.slice Cb nb cb9)] wr W6):=by
     unfold Hid;rw[hW6];exact (HKc.out.past3 (p:=p) hpw (by simp[*]) _ _ _).drew
    have HNX:Hid (Kept [(⟨p,0,none⟩,.string xk),(⟨p,1,none⟩,.slice Xe xn xc),(⟨p,2,none⟩,.slice Xk xm xd)] wr W6):=by
     unfold Hid;rw[hW6];exact ((Kept.nil_of HKc.out.below).set3 (p:=p) hpw (by simp) ⟨_,HPX.out.c0⟩ ⟨_,HPX.out.c1⟩ ⟨_,HPX.out.c2⟩ _ _ _).drew
    have HOX:Hid (Kept [(⟨p2,0,none⟩,.string ⟨#[]⟩),(⟨p2,1,none⟩,.slice none 0 0),(⟨p2,2,none⟩,.slice none 0 0)] wr W6):=by
     unfold Hid;rw[hW6];exact (HPY.out.past3 (p:=p) hpw (by simp[*]) _ _ _).drew
    have HFN:Hid (Free p W6):=by unfold Hid;rw[hW6];exact ((((HFX.out.set _ _).set _ _).set _ _)).drew
    have HFO:Hid (Free p2 W6):=by unfold Hid;rw[hW6];exact ((((HFY.out.set _ _).set _ _).set _ _)).drew
    have HW6:=Lib.hid hW6;clear hW6 HKc HPX HPY HFX HFY;have HKc:=HKn;have HPX:=HNX;have HPY:=HOX;have HFX:=HFN;have HFY:=HFO;clear HKn HNX HOX HFN HFO;obtain⟨t9,ht9⟩:∃ t,joinT dd ca cb xt none_=t:=⟨_,rfl⟩;obtain⟨o9,ho9⟩:∃ o,stK (joinT dd ca cb) (some (xk,xt)) (none)=o:=⟨_,rfl⟩
    have HO9:Hid ((EmptyT t9→o9=none)∧(¬EmptyT t9→o9=some (xk,t9))):=by
     refine⟨fun h=>?_,fun h=>?_⟩
     ·rw[← ho9]
      exact if_pos (show EmptyT (joinT dd ca cb xt none_) by rw[ht9];exact h)
     ·rw[← ho9]
      refine (if_neg (show ¬EmptyT (joinT dd ca cb xt none_) by rw[ht9];exact h)).trans ?_;rw[← ht9];rfl
    have HOUT:Hid (out++(o9.toList++mrg keyK ltS (stK (joinT dd ca cb)) a1 [])=tot):=by
     have h1:=HOUT.out;rw[mrg_left (key:=keyK) (lt:=ltS) (st:=stK (joinT dd ca cb)) ((xk,xt):Kd) a1,ho9]at h1;exact h1
    have HQT:Hid (q≤200000):=by
     have h1:=congrArg List.length HOUT.out;have h2:=HLT.out;have h3:=HNM.out;have h4:=HLO.out;rw[List.length_append]at h1;unfold Hid;omega
    have HST:Hid (Calls Tryz.prog 185 #[.agg #[.string xk,.slice Xe xn xc,.slice Xk xm xd],.agg #[.string ⟨#[]⟩,.slice none 0 0,.slice none 0 0],.pointer (some ⟨ba,0,none⟩),.pointer (some ⟨bb,0,none⟩)] W6 (StayKd xk t9 W6)):=by
     refine stayK_any xk ⟨#[]⟩ Xe Xk none none xn xm xc xd 0 0 0 0 Ca Cb na ca9 nb cb9 ba bb W6 HKc.out.c3 HKc.out.c4 t9 xk (by have h1:1≤xk.size:=(HGA.out.2 _ List.mem_cons_self).2.2.2;rw[if_neg (by omega)]) fun W hb=>?_;have h1:Below w.heap.size w W:=HKW.out.below.trans ((HKc.out.below.trans (hb.mono HKc.out.below.size)).mono HKW.out.below.size);have h2:Below w.heap.size wr W:=(HKc.out.below.trans (hb.mono HKc.out.below.size)).mono HKW.out.below.size;rw[← ht9];exact HIH.out xt none_ Xe Xk none none Ca Cb xn xm xc xd 0 0 0 0 na ca9 nb cb9 W (.inl (HGA.out.2 _ List.mem_cons_self).1) (.inr rfl) (fun h=>(HGA.out.2 _ List.mem_cons_self).2.2.1 h.1) (HGA.out.2 _ List.mem_cons_self).2.1 (by rw[show nodes none_=0 from by unfold none_;rw[nodes_mk];rfl];omega) HPA.out.1 HPB.out.1 hna hnb ((HPA.out.2.1.below h1).more h1.size) ((HPB.out.2.1.below h1).more h1.size) HPA.out.2.2 HPB.out.2.2 (RdT.more h1.size _ (RdT.below HRTx.out h2)) (RdT.none _ _ _ _)
    obtain⟨B9,hB9⟩:∃ z,z=W6.heap.size:=⟨_,rfl⟩
    have HB9:Hid (wr.heap.size≤B9):=by unfold Hid;rw[hB9];exact HKc.out.below.size
    clear ho9 ht9;rw[← HW6.out];obtain⟨k0,k1,k2,-⟩:=HPX.out.cj;have k3:=HPY.out.c0;have k4:=HPY.out.c1;have k5:=HPY.out.c2;go_wp2_with fail;refine HST.out.mono ?_;rintro e v6 ⟨Ze,zn,zc,Zk,zm,zd,rfl,hro,hb6⟩;have HRO:Hid (RdO v6 (fun b=>B9≤b) t9 ⟨Ze,zn,zc⟩ ⟨Zk,zm,zd⟩):=RdO.mono (fun b hb _=>by omega) _ hro;have hlz:t9.es.length=zn∧t9.ks.length=zm:=rd_lens2 hro;have HB6:=Lib.hid (HKc.out.below.trans (hb6.mono HKc.out.below.size));have hs6:wr.heap.size≤v6.heap.size:=HB6.out.size;have hbz:Below v6.heap.size v6 (v6.alloc (.cells #[.string xk,.slice Ze zn zc,.slice Zk zm zd] 134)):=Dt.box_below _ _ _;have HB8:Hid (Below wr.heap.size wr (v6.alloc (.cells #[.string xk,.slice Ze zn zc,.slice Zk zm zd] 134))):=HB6.out.trans (hbz.mono hs6)
    have hs8:((v6.alloc (.cells #[.string xk,.slice Ze zn zc,.slice Zk zm zd] 134))).heap.size=v6.heap.size+1:=by simp
    have HRO8:Hid (RdO (v6.alloc (.cells #[.string xk,.slice Ze zn zc,.slice Zk zm zd] 134)) (fun b=>B9≤b) t9 ⟨Ze,zn,zc⟩ ⟨Zk,zm,zd⟩):=RdO.later HRO.out hbz;clear hro hB9 hb6 hbz k0 k1 k2 k3 k4 k5 HKc HPX HPY HFX HFY HRO
    by_cases hem:EmptyT t9
    ·have hfe:decide (zn=0∧zm=0)=true:=decide_eq_true ⟨by rw[← hlz.1,hem.1];rfl,by rw[← hlz.2,hem.2];rfl⟩
     obtain rfl:o9=none:=by exact HO9.out.1 hem
     clear hlz hem;have HOUT:Hid (out++mrg keyK ltS (stK (joinT dd ca cb)) a1 []=tot):=HOUT.out;go_wp2_with fail;obtain⟨w9,hw9⟩:∃ W,W=(v6.alloc (.cells #[.string xk,.slice Ze zn zc,.slice Zk zm zd] 134)):=⟨_,rfl⟩;rw[← hw9]at HB8 ⊢;clear hw9 hs8;go_roundw
     case rel=>exact⟨a1,[],out,kr,A1,B,Ax,n1,0,q,(c-1),d,cx,rfl,rfl,rfl,by omega,by omega,HA1.out.1,HA1.out.2.below (HB8.out.mono HKW.out.below.size),⟨(List.pairwise_cons.1 HGA.out.1).2,fun e he=>HGA.out.2 e (List.mem_cons_of_mem _ he)⟩,rfl,HRB.out.below (HB8.out.mono HKW.out.below.size),HGB.out,HOUT.out,HLO.out,HOW.out.later HB8.out,HKW.out.low2 HLOW.out (HB8.out.mono HKW.out.below.size)⟩
     case measure=>simp[cntOf];omega
    ·have hfe:decide (zn=0∧zm=0)=false:=decide_eq_false fun h=>hem ⟨List.length_eq_zero_iff.1 (by rw[hlz.1];exact h.1),List.length_eq_zero_iff.1 (by rw[hlz.2];exact h.2)⟩
     obtain rfl:o9=some (xk,t9):=by exact HO9.out.2 hem
     clear hlz hem;obtain⟨A6,c6,w6,r6,HO6,hb6,_⟩:=KidRow.push2 (k:=(xk,⟨Ze,zn,zc⟩,⟨Zk,zm,zd⟩)) Tryz.underlying33 infoK rfl (by omega) (HOW.out.later HB8.out) (v6.heap.size+1) hs8 (Nat.le_trans HKW.out.below.size HB8.out.size) (RdO.mono (fun b hb _=>⟨by have h1:=HB9.out;have h2:=HKW.out.below.size;have h3:B9≤b:=hb;omega,fun e=>by have h1:=(HOW.out.own.row.lt b e).2;have h2:=HB9.out;have h3:B9≤b:=hb;omega⟩) _ HRO8.out) (by have:=HQT.out;omega) #[.string xk,.slice Ze zn zc,.slice Zk zm zd] rfl;have Hrun:=Lib.hid r6;have HO7:=Lib.hid HO6;have hww:=HKW.out.below.size;have HB7:Hid (Below w.heap.size wr w6):=(HB8.out.mono hww).trans hb6
     have HOUT:Hid ((out++[(xk,t9)])++mrg keyK ltS (stK (joinT dd ca cb)) a1 []=tot):=by
      have h1:=HOUT.out;rw[← List.append_assoc]at h1;exact h1
     have HLO:Hid ((out++[((xk,t9):Kd)]).length=q+1):=by unfold Hid;rw[List.length_append,HLO.out];rfl
     clear r6 HO6 hb6 hs8 hww;go_wp2_with (at_builtin;refine Lib.wpList_append_run _ rfl _ _ _ _ rfl _ _ rfl rfl _ _ Hrun.out ?_);go_roundw
     case rel=>exact⟨a1,[],(out++[((xk,t9):Kd)]),_,A1,B,A6,n1,0,(q+1),(c-1),d,c6,rfl,rfl,by go_num,by omega,by omega,HA1.out.1,HA1.out.2.below HB7.out,⟨(List.pairwise_cons.1 HGA.out.1).2,fun e he=>HGA.out.2 e (List.mem_cons_of_mem _ he)⟩,rfl,HRB.out.below HB7.out,HGB.out,HOUT.out,HLO.out,HO7.out,HKW.out.low2 HLOW.out HB7.out⟩
     case measure=>simp[cntOf];omega
  ·by_cases hm0:0<m
   ·obtain rfl:n=0:=by omega
    obtain rfl:a=[]:=List.length_eq_zero_iff.1 HLA.out
    obtain⟨y,b1,rfl⟩:∃ x l,b=x::l:=by
     cases b with
     | nil=>have h1:=HLB.out;simp at h1;omega
     | cons x l=>exact⟨x,l,rfl⟩
    obtain⟨yk,yt⟩:=y;obtain⟨u2,o2,rfl,hu2,⟨⟨Ye,yn,yc⟩,⟨Yk,ym,yd⟩,y0,y1,y2,hrty⟩⟩:=HRB.out.head (by omega);dsimp only at y1 y2;have HRTy:=Lib.hid hrty;have hwu2:u2<wr.heap.size:=World.block_lt_of_cell? wr _ y0;obtain⟨m1,hm1⟩:∃ z,z=m-1:=⟨_,rfl⟩
    obtain⟨B1,hB1⟩:∃ z,z=(if d=1 then some (⟨u2,o2,none⟩:Addr)else (some (⟨u2,o2,none⟩:Addr)).map (·.add (1*3))):=⟨_,rfl⟩
    have hcuty:∀ W,(Instr.slice 33 (.slice (some ⟨u2,o2,none⟩) m d) (some (.int .i64 1)) none none).run Tryz.prog W = .ok (.slice B1 m1 (d-1)) W:=fun W=>by
     have h1:=run_cut_from (P:=Tryz.prog) 33 134 3 Tryz.underlying33 hi0 hz1 (some ⟨u2,o2,none⟩) m d 1 (by omega) W;rw[← hB1,← hm1]at h1;exact h1
    have HB1:Hid (b1.length=m1∧RdK wr w.heap.size B1 m1 (d-1) b1):=by
     have h2:=HLB.out;refine⟨by rw[hm1];simp at h2;omega,?_⟩;rw[hB1,hm1];exact HRB.out.tail (by omega)
    have fma:((m:Int)==0)=false:=by rw[beq_eq_false_iff_ne];omega
    have fmb:decide ((0:Int)<(m:Int))=true:=decide_eq_true (by omega)
    have hnm1:m1+1=m:=by omega
    clear hm1 hB1 hrty;have HKc:=Lib.hid (((((((Kept.nil wr).cons_of HKW.out.c1).cons_of HKW.out.c0).cons_of y2).cons_of y1).cons_of y0).drew);go_wp2_with fail;refine wp_region_held_drew (S:=fun W=>W.cell? ⟨u2,o2,none⟩=some (.string yk)∧W.cell? ⟨u2,o2+1,none⟩=some (.slice Ye yn yc)∧W.cell? ⟨u2,o2+2,none⟩=some (.slice Yk ym yd)) (by kernel_rfl) (by exact⟨HKc.out.c0,HKc.out.c1,HKc.out.c2⟩) (fun hHeld=>?_);refine Tk 0 24 ?_;refine Tk 1 25 ?_;refine Tk 2 26 ?_;refine Tk 3 27 ?_;refine Tk 4 28 ?_;refine Tk 5 29 ?_;refine Tk 6 30 ?_;refine Tk 7 31 ?_;refine Tn 8 32 ?_;refine Tn 9 33 ?_;refine Tn 10 34 ?_;refine Tn 11 35 ?_;refine Tn 12 36 ?_;refine Tn 13 37 ?_;refine Tn 14 38 ?_;refine Tn 15 39 ?_;refine Tn 16 40 ?_;refine Tk 17 41 ?_;refine Tk 18 42 ?_;refine Tk 19 10 ?_;refine wpAnyH_done (by kernel_rfl) ?_ _;clear hHeld;go_wp2_with fail
    have HKc:=Lib.hid (HKc.out.drew);refine wp_region_held_drew (S:=fun W=>W.cell? ⟨u2,o2,none⟩=some (.string yk)∧W.cell? ⟨u2,o2+1,none⟩=some (.slice Ye yn yc)∧W.cell? ⟨u2,o2+2,none⟩=some (.slice Yk ym yd)) (by kernel_rfl) (by exact⟨HKc.out.c0,HKc.out.c1,HKc.out.c2⟩) (fun hHeld=>?_);refine Tk 0 43 ?_;refine Tk 1 44 ?_;refine Tk 2 45 ?_;refine Tk 3 46 ?_;refine Tn 4 47 ?_;refine Tn 5 48 ?_;refine Tn 6 49 ?_;refine Tn 7 50 ?_;refine Tn 8 51 ?_;refine Tn 9 52 ?_;refine Tn 10 53 ?_;refine Tn 11 54 ?_;refine Tn 12 55 ?_;refine Tn 13 56 ?_;refine Tn 14 57 ?_;refine Tn 15 58 ?_;refine Tn 16 59 ?_;refine Tn 17 60 ?_;refine Tk 18 61 ?_;refine Tk 19 11 ?_;refine wpAnyH_done (by kernel_rfl) ?_ _;clear hHeld;have hsz:=HKc.out.below.size;obtain⟨W5,p,p2,HW5,HP5,HQ5,HPX,HPY,HFX,HFY,hb5⟩:=boxK2 (wr.drew.drew);have HKc:=Lib.hid (HKc.out.later hb5)
    have HPX:=Lib.hid (HPX.out.rebase HKc.out.below);have HPY:=Lib.hid (HPY.out.rebase HKc.out.below);have HW5:Hid (W5=((wr.alloc (.cells #[.string ⟨#[]⟩,.slice none 0 0,.slice none 0 0] 134)).alloc (.cells #[.string ⟨#[]⟩,.slice none 0 0,.slice none 0 0] 134)).drew.drew):=HW5.out;have HP5:Hid (p=wr.heap.size):=HP5.out
    have hpw:wr.heap.size≤p:=by have:=HP5.out;omega
    have hpw2:wr.heap.size≤p2:=by have:=HQ5.out;omega
    have hpp:¬p=p2:=by have:=HQ5.out;omega
    have hpp2:¬p2=p:=by omega
    have hwwr:=HKW.out.below.size
    have hap:¬ba=p:=by have:=HBA.out;omega
    have hap2:¬ba=p2:=by have:=HBA.out;omega
    have hbp:¬bb=p:=by have:=HBB.out;omega
    have hbp2:¬bb=p2:=by have:=HBB.out;omega
    have h2p:¬u2=p:=by omega
    have h2p2:¬u2=p2:=by omega
    have h2q:¬p=u2:=by omega
    have h2q2:¬p2=u2:=by omega
    clear hsz hb5 hwwr;go_wp2_with fail;rw[← HP5.out,← HQ5.out,← HW5.out];obtain⟨s0,s1,s2,-⟩:=HPY.out.cj;have m0:=HFY.out.2 0;have m1:=HFY.out.2 1;have m2:=HFY.out.2 2;obtain⟨t0,t1,t2,-⟩:=HKc.out.cj;refine wp_region_held_drew (S:=fun W=>W.cell? ⟨u2,o2,none⟩=some (.string yk)∧W.cell? ⟨u2,o2+1,none⟩=some (.slice Ye yn yc)∧W.cell? ⟨u2,o2+2,none⟩=some (.slice Yk ym yd)) (by kernel_rfl) (by go_keep) (fun hHeld=>?_);refine Tk 0 69 ?_;refine Tk 1 70 ?_;refine Tk 2 71 ?_;refine Tk 3 72 ?_;refine Tk 4 73 ?_;refine Tc 5 (fun K hK=>?_);go_simp;refine Th hK ?_ (fun hHeld2=>?_)
    ·(try dsimp only);go_keep
    clear hK K hHeld;have hHeld:=hHeld2;clear hHeld2;refine Tk 6 1 ?_;refine wpAnyH_done (by kernel_rfl) ?_ _;clear hHeld s0 s1 s2 m0 m1 m2 t0 t1 t2;obtain⟨W6,hW6⟩:∃ W,W=((((W5.setCell ⟨p2,0,none⟩ (.string yk)).setCell ⟨p2,1,none⟩ (.slice Ye yn yc)).setCell ⟨p2,2,none⟩ (.slice Yk ym yd))).drew:=⟨_,rfl⟩
    have HKn:Hid (Kept [(⟨u2,o2,none⟩,.string yk),(⟨u2,o2+1,none⟩,.slice Ye yn yc),(⟨u2,o2+2,none⟩,.slice Yk ym yd),(⟨ba,2,none⟩,.slice Ca na ca9),(⟨bb,2,none⟩,.slice Cb nb cb9)] wr W6):=by
     unfold Hid;rw[hW6];exact (HKc.out.past3 (p:=p2) hpw2 (by simp[*]) _ _ _).drew
    have HNX:Hid (Kept [(⟨p2,0,none⟩,.string yk),(⟨p2,1,none⟩,.slice Ye yn yc),(⟨p2,2,none⟩,.slice Yk ym yd)] wr W6):=by
     unfold Hid;rw[hW6];exact ((Kept.nil_of HKc.out.below).set3 (p:=p2) hpw2 (by simp) ⟨_,HPY.out.c0⟩ ⟨_,HPY.out.c1⟩ ⟨_,HPY.out.c2⟩ _ _ _).drew
    have HOX:Hid (Kept [(⟨p,0,none⟩,.string ⟨#[]⟩),(⟨p,1,none⟩,.slice none 0 0),(⟨p,2,none⟩,.slice none 0 0)] wr W6):=by
     unfold Hid;rw[hW6];exact (HPX.out.past3 (p:=p2) hpw2 (by simp[*]) _ _ _).drew
    have HFN:Hid (Free p2 W6):=by unfold Hid;rw[hW6];exact ((((HFY.out.set _ _).set _ _).set _ _)).drew
    have HFO:Hid (Free p W6):=by unfold Hid;rw[hW6];exact ((((HFX.out.set _ _).set _ _).set _ _)).drew
    have HW6:=Lib.hid hW6;clear hW6 HKc HPY HPX HFY HFX;have HKc:=HKn;have HPY:=HNX;have HPX:=HOX;have HFY:=HFN;have HFX:=HFO;clear HKn HNX HOX HFN HFO;obtain⟨t9,ht9⟩:∃ t,joinT dd ca cb none_ yt=t:=⟨_,rfl⟩;obtain⟨o9,ho9⟩:∃ o,stK (joinT dd ca cb) (none) (some (yk,yt))=o:=⟨_,rfl⟩
    have HO9:Hid ((EmptyT t9→o9=none)∧(¬EmptyT t9→o9=some (yk,t9))):=by
     refine⟨fun h=>?_,fun h=>?_⟩
     ·rw[← ho9]
      exact if_pos (show EmptyT (joinT dd ca cb none_ yt) by rw[ht9];exact h)
     ·rw[← ho9]
      refine (if_neg (show ¬EmptyT (joinT dd ca cb none_ yt) by rw[ht9];exact h)).trans ?_;rw[← ht9];rfl
    have HOUT:Hid (out++(o9.toList++mrg keyK ltS (stK (joinT dd ca cb)) [] b1)=tot):=by
     have h1:=HOUT.out;rw[mrg_right (key:=keyK) (lt:=ltS) (st:=stK (joinT dd ca cb)) ((yk,yt):Kd) b1,ho9]at h1;exact h1
    have HQT:Hid (q≤200000):=by
     have h1:=congrArg List.length HOUT.out;have h2:=HLT.out;have h3:=HNM.out;have h4:=HLO.out;rw[List.length_append]at h1;unfold Hid;omega
    have HST:Hid (Calls Tryz.prog 185 #[.agg #[.string ⟨#[]⟩,.slice none 0 0,.slice none 0 0],.agg #[.string yk,.slice Ye yn yc,.slice Yk ym yd],.pointer (some ⟨ba,0,none⟩),.pointer (some ⟨bb,0,none⟩)] W6 (StayKd yk t9 W6)):=by
     refine stayK_any ⟨#[]⟩ yk none none Ye Yk 0 0 0 0 yn ym yc yd Ca Cb na ca9 nb cb9 ba bb W6 HKc.out.c3 HKc.out.c4 t9 yk (if_pos rfl) fun W hb=>?_;have h1:Below w.heap.size w W:=HKW.out.below.trans ((HKc.out.below.trans (hb.mono HKc.out.below.size)).mono HKW.out.below.size);have h2:Below w.heap.size wr W:=(HKc.out.below.trans (hb.mono HKc.out.below.size)).mono HKW.out.below.size;rw[← ht9];exact HIH.out none_ yt none none Ye Yk Ca Cb 0 0 0 0 yn ym yc yd na ca9 nb cb9 W (.inr rfl) (.inl (HGB.out.2 _ List.mem_cons_self).1) (fun h=>(HGB.out.2 _ List.mem_cons_self).2.2.1 h.2) (by rw[show nodes none_=0 from by unfold none_;rw[nodes_mk];rfl];omega) (HGB.out.2 _ List.mem_cons_self).2.1 HPA.out.1 HPB.out.1 hna hnb ((HPA.out.2.1.below h1).more h1.size) ((HPB.out.2.1.below h1).more h1.size) HPA.out.2.2 HPB.out.2.2 (RdT.none _ _ _ _) (RdT.more h1.size _ (RdT.below HRTy.out h2))
    obtain⟨B9,hB9⟩:∃ z,z=W6.heap.size:=⟨_,rfl⟩
    have HB9:Hid (wr.heap.size≤B9):=by unfold Hid;rw[hB9];exact HKc.out.below.size
    clear ho9 ht9;rw[← HW6.out];obtain⟨k0,k1,k2,-⟩:=HPX.out.cj;have k3:=HPY.out.c0;have k4:=HPY.out.c1;have k5:=HPY.out.c2;go_wp2_with fail;refine HST.out.mono ?_;rintro e v6 ⟨Ze,zn,zc,Zk,zm,zd,rfl,hro,hb6⟩;have HRO:Hid (RdO v6 (fun b=>B9≤b) t9 ⟨Ze,zn,zc⟩ ⟨Zk,zm,zd⟩):=RdO.mono (fun b hb _=>by omega) _ hro;have hlz:t9.es.length=zn∧t9.ks.length=zm:=rd_lens2 hro;have HB6:=Lib.hid (HKc.out.below.trans (hb6.mono HKc.out.below.size));have hs6:wr.heap.size≤v6.heap.size:=HB6.out.size;have hbz:Below v6.heap.size v6 (v6.alloc (.cells #[.string yk,.slice Ze zn zc,.slice Zk zm zd] 134)):=Dt.box_below _ _ _;have HB8:Hid (Below wr.heap.size wr (v6.alloc (.cells #[.string yk,.slice Ze zn zc,.slice Zk zm zd] 134))):=HB6.out.trans (hbz.mono hs6)
    have hs8:((v6.alloc (.cells #[.string yk,.slice Ze zn zc,.slice Zk zm zd] 134))).heap.size=v6.heap.size+1:=by simp
    have HRO8:Hid (RdO (v6.alloc (.cells #[.string yk,.slice Ze zn zc,.slice Zk zm zd] 134)) (fun b=>B9≤b) t9 ⟨Ze,zn,zc⟩ ⟨Zk,zm,zd⟩):=RdO.later HRO.out hbz;clear hro hB9 hb6 hbz k0 k1 k2 k3 k4 k5 HKc HPX HPY HFX HFY HRO
    by_cases hem:EmptyT t9
    ·have hfe:decide (zn=0∧zm=0)=true:=decide_eq_true ⟨by rw[← hlz.1,hem.1];rfl,by rw[← hlz.2,hem.2];rfl⟩
     obtain rfl:o9=none:=by exact HO9.out.1 hem
     clear hlz hem;have HOUT:Hid (out++mrg keyK ltS (stK (joinT dd ca cb)) [] b1=tot):=HOUT.out;go_wp2_with fail;obtain⟨w9,hw9⟩:∃ W,W=(v6.alloc (.cells #[.string yk,.slice Ze zn zc,.slice Zk zm zd] 134)):=⟨_,rfl⟩;rw[← hw9]at HB8 ⊢;clear hw9 hs8;go_roundw
     case rel=>exact⟨[],b1,out,kr,A,B1,Ax,0,m1,q,c,(d-1),cx,rfl,rfl,rfl,by omega,by omega,rfl,HRA.out.below (HB8.out.mono HKW.out.below.size),HGA.out,HB1.out.1,HB1.out.2.below (HB8.out.mono HKW.out.below.size),⟨(List.pairwise_cons.1 HGB.out.1).2,fun e he=>HGB.out.2 e (List.mem_cons_of_mem _ he)⟩,HOUT.out,HLO.out,HOW.out.later HB8.out,HKW.out.low2 HLOW.out (HB8.out.mono HKW.out.below.size)⟩
     case measure=>simp[cntOf];omega
    ·have hfe:decide (zn=0∧zm=0)=false:=decide_eq_false fun h=>hem ⟨List.length_eq_zero_iff.1 (by rw[hlz.1];exact h.1),List.length_eq_zero_iff.1 (by rw[hlz.2];exact h.2)⟩
     obtain rfl:o9=some (yk,t9):=by exact HO9.out.2 hem
     clear hlz hem;obtain⟨A6,c6,w6,r6,HO6,hb6,_⟩:=KidRow.push2 (k:=(yk,⟨Ze,zn,zc⟩,⟨Zk,zm,zd⟩)) Tryz.underlying33 infoK rfl (by omega) (HOW.out.later HB8.out) (v6.heap.size+1) hs8 (Nat.le_trans HKW.out.below.size HB8.out.size) (RdO.mono (fun b hb _=>⟨by have h1:=HB9.out;have h2:=HKW.out.below.size;have h3:B9≤b:=hb;omega,fun e=>by have h1:=(HOW.out.own.row.lt b e).2;have h2:=HB9.out;have h3:B9≤b:=hb;omega⟩) _ HRO8.out) (by have:=HQT.out;omega) #[.string yk,.slice Ze zn zc,.slice Zk zm zd] rfl;have Hrun:=Lib.hid r6;have HO7:=Lib.hid HO6;have hww:=HKW.out.below.size;have HB7:Hid (Below w.heap.size wr w6):=(HB8.out.mono hww).trans hb6
     have HOUT:Hid ((out++[(yk,t9)])++mrg keyK ltS (stK (joinT dd ca cb)) [] b1=tot):=by
      have h1:=HOUT.out;rw[← List.append_assoc]at h1;exact h1
     have HLO:Hid ((out++[((yk,t9):Kd)]).length=q+1):=by unfold Hid;rw[List.length_append,HLO.out];rfl
     clear r6 HO6 hb6 hs8 hww;go_wp2_with (at_builtin;refine Lib.wpList_append_run _ rfl _ _ _ _ rfl _ _ rfl rfl _ _ Hrun.out ?_);go_roundw
     case rel=>exact⟨[],b1,(out++[((yk,t9):Kd)]),_,A,B1,A6,0,m1,(q+1),c,(d-1),c6,rfl,rfl,by go_num,by omega,by omega,rfl,HRA.out.below HB7.out,HGA.out,HB1.out.1,HB1.out.2.below HB7.out,⟨(List.pairwise_cons.1 HGB.out.1).2,fun e he=>HGB.out.2 e (List.mem_cons_of_mem _ he)⟩,HOUT.out,HLO.out,HO7.out,HKW.out.low2 HLOW.out HB7.out⟩
     case measure=>simp[cntOf];omega
   ·obtain rfl:n=0:=by omega
    obtain rfl:m=0:=by omega
    obtain rfl:a=[]:=List.length_eq_zero_iff.1 HLA.out;obtain rfl:b=[]:=List.length_eq_zero_iff.1 HLB.out;have ho:=HOUT.out;rw[mrg_nil,List.append_nil]at ho;subst ho;go_wp2_with fail;go_ret;exact⟨Ax,q,cx,kr,rfl,HOW.out,HKW.out.below⟩
end Cs
end Go.Proofs.YtgeafpaognhokaaGreat
