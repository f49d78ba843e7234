/- All joined: the program's. -/
import Derived.Test.YtjpcechcefhcfaaGreatG00
import Derived.Test.YtjpcechcefhcfaaGreatG120
import Derived.Test.YtjpcechcefhcfaaGreatCauRefJoin
import Derived.Test.YtjpcechcefhcfaaGreatCauJoin
set_option maxRecDepth 100000
set_option maxHeartbeats 4000000
namespace Go.Proofs.YtjpcechcefhcfaaGreat
open Go.ChangeShapes Go.WideShapes Go.ChangeAt Go.RowKit
namespace Cs
open Tr Cx Sp Rw Classical
theorem cpV_len (p:CP):(cpV p).length=3:=rfl
theorem cpV_one (p:CP):∀ u∈cpV p,u.oneCell'=true:=by
 intro u hu;simp[cpV]at hu
 rcases hu with rfl | rfl | rfl <;> rfl
structure RowP (w:World) (A:Option Addr) (n c:Nat) (ps:List CP):Prop where
 row:Rd w w.heap.size 3 A n c (ps.flatMap cpV)
 len:ps.length=n
 each:∀ p∈ps,RdP w p
theorem RowP.later {w w':World} {A:Option Addr} {n c:Nat} {ps:List CP} (h:RowP w A n c ps) (hb:Below w.heap.size w w'):RowP w' A n c ps:=⟨h.row.later hb,h.len,fun p hp=>(h.each p hp).later hb⟩
theorem RowP.at_ {w:World} {A:Option Addr} {n c:Nat} {ps:List CP} (h:RowP w A n c ps) (hn:0<n):∃ b o,A=some ⟨b,o,none⟩∧b<w.heap.size∧∀ (k:Nat) (hk:k<ps.length),w.cell? ⟨b,o+k*3,none⟩=some (.slice ps[k].e.A ps[k].e.n ps[k].e.c)∧w.cell? ⟨b,o+k*3+1,none⟩=some (.slice ps[k].d.A ps[k].d.n ps[k].d.c)∧w.cell? ⟨b,o+k*3+2,none⟩=some (.slice ps[k].c.A ps[k].c.n ps[k].c.c):=by
 obtain⟨b,o,e,hb,hc⟩:=rd_elem cpV_len h.row (m:=0) hn;exact⟨b,o,e,hb,fun k hk=>⟨hc k hk 0 _ rfl,hc k hk 1 _ rfl,hc k hk 2 _ rfl⟩⟩
theorem flat_take (ps:List CP) (j:Nat):(ps.flatMap cpV).take (j*3)=(ps.take j).flatMap cpV:=by
 induction ps generalizing j with
 | nil=>simp
 | cons p ps ih=>
  cases j with
  | zero=>simp
  | succ j=>
   rw[List.take_succ_cons,List.flatMap_cons,List.flatMap_cons,← ih j,List.take_append,cpV_len,show (j+1)*3-3=j*3 by omega,List.take_of_length_le (by rw[cpV_len];omega)]
theorem flat_drop (ps:List CP) (j:Nat):(ps.flatMap cpV).drop (j*3)=(ps.drop j).flatMap cpV:=by
 induction ps generalizing j with
 | nil=>simp
 | cons p ps ih=>
  cases j with
  | zero=>simp
  | succ j=>
   rw[List.drop_succ_cons,List.flatMap_cons,← ih j,List.drop_append,cpV_len,show (j+1)*3-3=j*3 by omega,List.drop_of_length_le (by rw[cpV_len];omega),List.nil_append]
theorem RowP.to {w:World} {A:Option Addr} {n c:Nat} {ps:List CP} (h:RowP w A n c ps) {j:Nat} (hj:j≤n):RowP w A j c (ps.take j):=⟨by rw[← flat_take];exact h.row.to_ hj,by rw[List.length_take,h.len];omega,fun p hp=>h.each p (List.mem_of_mem_take hp)⟩
theorem RowP.from {w:World} {A:Option Addr} {n c:Nat} {ps:List CP} (h:RowP w A n c ps) {j:Nat} (hj:j≤n):RowP w (if c=j then A else A.map (·.add (j*3))) (n-j) (c-j) (ps.drop j):=⟨by rw[← flat_drop];exact h.row.from_ hj,by rw[List.length_drop,h.len],fun p hp=>h.each p (List.mem_of_mem_drop hp)⟩
theorem infoC:(Tryz.prog.info? 29).map (fun i=>(i.zero,i.size,i.bytes))=some (some (.agg #[.slice none 0 0,.slice none 0 0,.slice none 0 0]),3,72):=by kernel_rfl
def sumN (ps:List CP):Nat:=(ps.map fun p=>nodes p.k.1).sum
def sumC (ps:List CP):Nat:=(ps.map fun p=>p.c.n).sum
theorem sumN_cut (ps:List CP) (j:Nat):sumN (ps.take j)+sumN (ps.drop j)=sumN ps:=by unfold sumN;rw[← List.sum_append,← List.map_append,List.take_append_drop]
theorem sumC_cut (ps:List CP) (j:Nat):sumC (ps.take j)+sumC (ps.drop j)=sumC ps:=by unfold sumC;rw[← List.sum_append,← List.map_append,List.take_append_drop]
theorem sumN_one (p:CP):sumN [p]=nodes p.k.1:=by simp[sumN]
theorem sumC_one (p:CP):sumC [p]=p.c.n:=by simp[sumC]
theorem sumN_mem {ps:List CP} {p:CP} (h:p∈ps):nodes p.k.1≤sumN ps:=le_sum (f:=fun p:CP=>nodes p.k.1) h
theorem sumC_mem {ps:List CP} {p:CP} (h:p∈ps):p.c.n≤sumC ps:=le_sum (f:=fun p:CP=>p.c.n) h
def AllIs (ps:List CP) (w:World) (e:Ending) (w':World):Prop:=∃ x:K,AllJ (ps.map CP.k) x∧nodes x.1≤sumN ps∧x.2.length≤sumC ps∧CausIs x w e w'
structure SmallP (ps:List CP):Prop where
 right:∀ p∈ps,RK p.k
 few:sumN ps≤1000∧sumC ps≤1000
theorem SmallP.take {ps:List CP} (h:SmallP ps) (j:Nat):SmallP (ps.take j):=⟨fun p hp=>h.right p (List.mem_of_mem_take hp),by have h1:=sumN_cut ps j;have h2:=h.few;omega,by have h1:=sumC_cut ps j;have h2:=h.few;omega⟩
theorem SmallP.drop {ps:List CP} (h:SmallP ps) (j:Nat):SmallP (ps.drop j):=⟨fun p hp=>h.right p (List.mem_of_mem_drop hp),by have h1:=sumN_cut ps j;have h2:=h.few;omega,by have h1:=sumC_cut ps j;have h2:=h.few;omega⟩
theorem joinAll_any:∀ (n:Nat) (ps:List CP) (A:Option Addr) (c:Nat) (w:World),n≤1000→RowP w A n c ps→SmallP ps→Calls Tryz.prog 61 #[.slice A n c] w (AllIs ps w):=by
 intro n
 induction n using Nat.strongRecOn with
 | ind n ih=>
  intro ps A c w hn8 hrow hsp;have IH:Hid (∀ m,m<n→∀ (ps:List CP) (A:Option Addr) (c:Nat) (w:World),m≤1000→RowP w A m c ps→SmallP ps→Calls Tryz.prog 61 #[.slice A m c] w (AllIs ps w)):=fun m hm=>ih m hm;clear ih;have HSP:=Lib.hid hsp;have hwr0:w.heap.size≤w.heap.size:=Nat.le_refl _;obtain⟨r,hr⟩:∃ r,r=w.heap.size:=⟨_,rfl⟩;obtain⟨W,hW⟩:∃ W,W=w.alloc (.cells #[.slice none 0 0,.slice none 0 0,.slice none 0 0] 29):=⟨_,rfl⟩
  have hb:Below w.heap.size w W:=by rw[hW];exact Dt.box_below _ _ _
  have HKR:Hid (Kept [(⟨r,0,none⟩,.slice none 0 0),(⟨r,1,none⟩,.slice none 0 0),(⟨r,2,none⟩,.slice none 0 0)] w W):=(((Kept.nil_of hb).cons_of (by rw[hW,hr];go_simp)).cons_of (by rw[hW,hr];go_simp)).cons_of (by rw[hW,hr];go_simp);have HFR:Hid (Free r W):=⟨by rw[hW,hr];simp,fun j=>by rw[hW,hr];go_simp⟩;have HRW:=Lib.hid (hrow.later hb)
  have hwr:w.heap.size≤r:=by omega
  have Hr:=Lib.hid hr;have HW:=Lib.hid hW;clear hrow hsp hwr0 hr hW hb
  by_cases h0:n=0
  ·subst h0
   obtain rfl:ps=[]:=List.length_eq_zero_iff.1 HRW.out.len;go_enter Tryz.func61,Tryz.ntmps61;go_wp2_with fail;rw[← Hr.out,← HW.out];obtain⟨z0,z1,z2,-⟩:=HKR.out.cj;refine bodyPost_ret (v:=.agg #[.slice none 0 0,.slice none 0 0,.slice none 0 0]) (by simp[results,Tryz.results61,go_sem,z0,z1,z2]) rfl ⟨noneK,AllJ.nil,by show nodes none_≤_;rw[nodes_none];omega,Nat.zero_le _,none,0,0,none,0,0,none,0,0,rfl,OwC.no _ _,HKR.out.below⟩
  by_cases h1:n=1
  ·subst h1
   obtain⟨p,rfl⟩:∃ p,ps=[p]:=List.length_eq_one_iff.1 HRW.out.len;have hp:=HSP.out.right p (by simp);have hfew:=HSP.out.few;rw[sumN_one,sumC_one]at hfew;obtain⟨⟨t,cs⟩,⟨Ae,ne,ce⟩,⟨Ak,nk,ck⟩,⟨Ca,na,ca9⟩⟩:=p;have hrp:=HRW.out.each _ (List.mem_singleton.2 rfl);obtain⟨b,o,rfl,hb,hc⟩:=HRW.out.at_ (by omega);obtain⟨x0,x1,x2⟩:=hc 0 (by simp);dsimp only[List.getElem_cons_zero]at x0 x1 x2;rw[Nat.zero_mul,Nat.add_zero]at x0 x1 x2;have hq:nodes t≤1000:=hfew.1;have hq2:na≤1000:=hfew.2;have HJN:=Lib.hid (join0_any none_ t [] cs none none none Ae Ak Ca 0 0 0 0 0 0 ne nk ce ck na ca9 W (by rw[nodes_none];omega) rfl (by omega) (RdP.zero _).tree (RdP.zero _).ctx (by omega) hrp.len (by omega) hrp.tree hrp.ctx right_noneK.tree hp.tree right_noneK.ctx hp.ctx);have HP:=Lib.hid hp;have HQ:=Lib.hid (And.intro hq (And.intro hq2 hrp.len))
   clear hp hrp hc hq hq2 hfew;rw[HW.out]at x0 x1 x2;go_enter Tryz.func61,Tryz.ntmps61;go_wp2_with fail;rw[← Hr.out,← HW.out];refine HJN.out.mono ?_;rintro e v4 ⟨x,hj,_,Re,rn,rc,Rk,rm,rd,Rc,rq,re,rfl,how,hb9⟩;obtain rfl:x=(t,cs):=join_none HP.out hj;have hrB:r<W.heap.size:=HFR.out.1;have HWB:w.heap.size≤W.heap.size:=HKR.out.below.size;have HOW:=Lib.hid how;have HKR:=Lib.hid (HKR.out.later hb9);have HFR:=Lib.hid (HFR.out.later hb9);clear hj how hb9 x0 x1 x2;obtain⟨z0,z1,z2,-⟩:=HKR.out.cj;have m0:=HFR.out.2 0;have m1:=HFR.out.2 1;have m2:=HFR.out.2 2;obtain⟨W9,hW9⟩:∃ W,W=((v4.setCell ⟨r,0,none⟩ (.slice Re rn rc)).setCell ⟨r,1,none⟩ (.slice Rk rm rd)).setCell ⟨r,2,none⟩ (.slice Rc rq re):=⟨_,rfl⟩
   have HB9:Hid (Below w.heap.size w W9):=by
    unfold Hid;rw[hW9];exact ((HKR.out.below.setCell (p:=⟨r,0,none⟩) hwr _).setCell (p:=⟨r,1,none⟩) hwr _).setCell (p:=⟨r,2,none⟩) hwr _
   have HOW9:Hid (OwC W9 w.heap.size (t,cs) Re rn rc Rk rm rd Rc rq re):=by
    unfold Hid;rw[hW9];exact (HOW.out.set3 hrB _ _ _).mono HWB
   have l0:W9.cell? ⟨r,0,none⟩=some (.slice Re rn rc):=by rw[hW9];go_simp
   have l1:W9.cell? ⟨r,1,none⟩=some (.slice Rk rm rd):=by rw[hW9];go_simp
   have l2:W9.cell? ⟨r,2,none⟩=some (.slice Rc rq re):=by rw[hW9];go_simp
   have HW9:=Lib.hid hW9;clear hW9;go_wp2_with fail;rw[← HW9.out];refine bodyPost_ret (v:=.agg #[.slice Re rn rc,.slice Rk rm rd,.slice Rc rq re]) (by simp[results,Tryz.results61,go_sem,l0,l1,l2]) rfl ⟨(t,cs),AllJ.one HP.out,by rw[sumN_one];exact Nat.le_refl _,by rw[sumC_one];exact Nat.le_of_eq HQ.out.2.2,Re,rn,rc,Rk,rm,rd,Rc,rq,re,rfl,HOW9.out,HB9.out⟩
  obtain⟨h9,hh9⟩:∃ h,h=n / 2:=⟨_,rfl⟩
  have f1:((n:Int)==0)=false:=by rw[beq_eq_false_iff_ne];omega
  have f2:((n:Int)==1)=false:=by rw[beq_eq_false_iff_ne];omega
  have f3:Int.tdiv (n:Int) 2=(h9:Int):=by rw[hh9,Int.tdiv_eq_ediv_of_nonneg (by omega)];omega
  have f4:((n:Int) / 2)=(h9:Int):=by rw[hh9];omega
  have f5:IntKind.i64.wrap (h9:Int)=(h9:Int):=by rw[IntKind.wrap_i64];omega
  obtain⟨m9,hm9⟩:∃ m,m=n-h9:=⟨_,rfl⟩
  have g1:1≤h9:=by omega
  have g2:1≤m9:=by omega
  have g3:h9<n:=by omega
  have g4:m9<n:=by omega
  obtain⟨A2,hA2⟩:∃ q,q=(if c=h9 then A else A.map (·.add (h9*3))):=⟨_,rfl⟩
  have hcap:n≤c:=HRW.out.row.cap
  have hcut1:∀ W,(Instr.slice 91 (.slice A n c) none (some (.int .i64 (h9:Nat))) none).run Tryz.prog W = .ok (.slice A h9 c) W:=fun W=>by
   obtain⟨i0,hi0,hz0,hz1,hz2⟩:=info_of infoC;exact run_cut_to (P:=Tryz.prog) 91 29 3 Tryz.underlying91 hi0 hz1 A n c h9 (by omega) W
  have hcut2:∀ W,(Instr.slice 91 (.slice A n c) (some (.int .i64 (h9:Nat))) none none).run Tryz.prog W = .ok (.slice A2 m9 (c-h9)) W:=fun W=>by
   obtain⟨i0,hi0,hz0,hz1,hz2⟩:=info_of infoC;rw[hA2,hm9];exact run_cut_from (P:=Tryz.prog) 91 29 3 Tryz.underlying91 hi0 hz1 A n c h9 (by omega) W
  have HA2:=Lib.hid hA2;have HM9:=Lib.hid hm9;clear hA2 hm9 hh9 h0 h1;go_enter Tryz.func61,Tryz.ntmps61;go_wp2_with fail;rw[← Hr.out,← HW.out];refine wp_region_held_drew (S:=fun _=>True) (by kernel_rfl) (by trivial) (fun hHeld=>?_);obtain⟨w1,hw1⟩:∃ v,v=W.drew:=⟨_,rfl⟩
  have hb9:Below W.heap.size W w1:=by rw[hw1];exact (Below.refl _ _).drew
  have HRW:=Lib.hid (HRW.out.later hb9);have HKR:=Lib.hid (HKR.out.later hb9);have HFR:=Lib.hid (HFR.out.later hb9);rw[← hw1];clear hw1 hb9;refine Tk 0 19 ?_;refine Tk 1 20 ?_;refine Tk 2 21 ?_;refine Tk 4 23 ?_;refine Tk 5 24 ?_;refine Tk 6 25 ?_;refine Tc 3 (fun K hK=>?_);go_simp;(go_at_call 61;refine (IH.out h9 (by omega) (ps.take h9) A c w1 (by omega) (HRW.out.to (by omega)) (HSP.out.take h9)).mono ?_);rintro e v2 ⟨x1,hj1,hn1,hl1,Ae,ne,ce,Ak,nk,ck,Ca,na,ca9,rfl,how,hb9⟩;have HJ1:=Lib.hid hj1;have HN1:=Lib.hid (And.intro hn1 hl1);have HO1:=Lib.hid how;have HRW:=Lib.hid (HRW.out.later hb9);have HKR:=Lib.hid (HKR.out.later hb9);have HFR:=Lib.hid (HFR.out.later hb9)
  have HRF:Hid (RowP v2 A2 m9 (c-h9) (ps.drop h9)):=by
   have h:=HRW.out.from (j:=h9) (by omega);rw[← HA2.out,← HM9.out]at h;exact h
  clear hj1 hn1 hl1 how hb9;refine Th hK ?_ (fun hHeld2=>?_)
  ·trivial
  clear hK K hHeld;have hHeld:=hHeld2;clear hHeld2;refine Tc 7 (fun K hK=>?_);go_simp;(go_at_call 61;refine (IH.out m9 (by omega) (ps.drop h9) A2 (c-h9) v2 (by omega) HRF.out (HSP.out.drop h9)).mono ?_);rintro e v3 ⟨x2,hj2,hn2,hl2,Be,me,de,Bk,mk,dk,Cb,nb,cb9,rfl,how,hb9⟩;have HJ2:=Lib.hid hj2;have HN2:=Lib.hid (And.intro hn2 hl2);have HO2:=Lib.hid how;have HO1:=Lib.hid (OwC.later HO1.out hb9);have HKR:=Lib.hid (HKR.out.later hb9);have HFR:=Lib.hid (HFR.out.later hb9);clear hj2 hn2 hl2 how hb9;refine Th hK ?_ (fun hHeld2=>?_)
  ·trivial
  clear hK K hHeld;have hHeld:=hHeld2;clear hHeld2;refine Tc 8 (fun K hK=>?_);go_simp;(go_at_call 54;refine (join0_any x1.1 x2.1 x1.2 x2.2 Ae Ak Ca Be Bk Cb ne nk ce ck na ca9 me mk de dk nb cb9 v3 (by have h1:=HN1.out.1;have h3:=(HSP.out.take h9).few;omega) HO1.out.len (by have h1:=HN1.out.2;have h2:=HO1.out.len;have h3:=(HSP.out.take h9).few;omega) HO1.out.rdT HO1.out.ctx.rd (by have h1:=HN2.out.1;have h3:=(HSP.out.drop h9).few;omega) HO2.out.len (by have h1:=HN2.out.2;have h2:=HO2.out.len;have h3:=(HSP.out.drop h9).few;omega) HO2.out.rdT HO2.out.ctx.rd HJ1.out.right.tree HJ2.out.right.tree HJ1.out.right.ctx HJ2.out.right.ctx).mono ?_);rintro e v4 ⟨x,hj,hl,Re,rn,rc,Rk,rm,rd,Rc,rq,re,rfl,how,hb9⟩;obtain⟨B1,hB1⟩:∃ z,z=v3.heap.size:=⟨_,rfl⟩
  have hrB:r<B1:=by rw[hB1];exact HFR.out.1
  have HWB:w.heap.size≤B1:=by rw[hB1];exact HKR.out.below.size
  have HOW:Hid (OwC v4 B1 x Re rn rc Rk rm rd Rc rq re):=by unfold Hid;rw[hB1];exact how
  have HXJ:Hid (AllJ (ps.map CP.k) x):=by
   have h:=HJ1.out.app HJ2.out hj;rw[← List.map_append,List.take_append_drop]at h;exact h
  have HXN:Hid (nodes x.1≤sumN ps∧x.2.length≤sumC ps):=by
   have h7:=sumN_cut ps h9;have h8:=sumC_cut ps h9;have h1:=HN1.out;have h2:=HN2.out;have h3:=joinT_nodes 5 x1.2 x2.2 x1.1 x2.1;have h4:=HO1.out.len;have h5:=HO2.out.len;have h6:=HM9.out;refine⟨?_,by omega⟩;rw[hj.tree];show nodes (joinT 5 x1.2 x2.2 x1.1 x2.1)≤_;omega
  have HKR:=Lib.hid (HKR.out.later hb9);have HFR:=Lib.hid (HFR.out.later hb9);clear hj hl how hb9 hB1;obtain⟨z0,z1,z2,-⟩:=HKR.out.cj;have m0:=HFR.out.2 0;have m1:=HFR.out.2 1;have m2:=HFR.out.2 2;refine Th hK ?_ (fun hHeld2=>?_)
  ·trivial
  clear hK K hHeld;have hHeld:=hHeld2;clear hHeld2;refine Tc 9 (fun K hK=>?_);go_simp;refine Th hK ?_ (fun hHeld2=>?_)
  ·trivial
  clear hK K hHeld;have hHeld:=hHeld2;clear hHeld2;refine wpAnyH_done (by kernel_rfl) ?_ _;clear hHeld;obtain⟨W9,hW9⟩:∃ W,W=((v4.setCell ⟨r,0,none⟩ (.slice Re rn rc)).setCell ⟨r,1,none⟩ (.slice Rk rm rd)).setCell ⟨r,2,none⟩ (.slice Rc rq re):=⟨_,rfl⟩
  have HB9:Hid (Below w.heap.size w W9):=by
   unfold Hid;rw[hW9];exact ((HKR.out.below.setCell (p:=⟨r,0,none⟩) hwr _).setCell (p:=⟨r,1,none⟩) hwr _).setCell (p:=⟨r,2,none⟩) hwr _
  have HOW9:Hid (OwC W9 w.heap.size x Re rn rc Rk rm rd Rc rq re):=by
   unfold Hid;rw[hW9];exact (HOW.out.set3 hrB _ _ _).mono HWB
  have l0:W9.cell? ⟨r,0,none⟩=some (.slice Re rn rc):=by rw[hW9];go_simp
  have l1:W9.cell? ⟨r,1,none⟩=some (.slice Rk rm rd):=by rw[hW9];go_simp
  have l2:W9.cell? ⟨r,2,none⟩=some (.slice Rc rq re):=by rw[hW9];go_simp
  clear z0 z1 z2 m0 m1 m2;rw[← hW9];clear hW9;go_wp2_with fail;refine bodyPost_ret (v:=.agg #[.slice Re rn rc,.slice Rk rm rd,.slice Rc rq re]) (by simp[results,Tryz.results61,go_sem,l0,l1,l2]) rfl ⟨x,HXJ.out,HXN.out.1,HXN.out.2,Re,rn,rc,Rk,rm,rd,Rc,rq,re,rfl,HOW9.out,HB9.out⟩
def JoinAllIs (ps:List CP) (N M:Nat) (w:World) (e:Ending) (w':World):Prop:=∃ (x:K) (z:Int),((∀ p∈ps,RK p.k)→z=0∧AllJ (ps.map CP.k) x∧nodes x.1≤N∧x.2.length≤M)∧((¬ ∀ p∈ps,RK p.k)→z=1∧x=noneK)∧CausErr x z w e w'
theorem joinAllE_sum (n:Nat) (ps:List CP) (A:Option Addr) (c:Nat) (w:World) (hn8:n≤1000) (hrow:RowP w A n c ps) (hsp:sumN ps≤1000∧sumC ps≤1000):Calls Tryz.prog 32 #[.slice A n c] w (JoinAllIs ps (sumN ps) (sumC ps) w):=by
 have HSP:=Lib.hid hsp;obtain⟨r,hr⟩:∃ r,r=w.heap.size:=⟨_,rfl⟩;obtain⟨W,hW⟩:∃ W,W=w.alloc (.cells #[.slice none 0 0,.slice none 0 0,.slice none 0 0] 29):=⟨_,rfl⟩
 have hb:Below w.heap.size w W:=by rw[hW];exact Dt.box_below _ _ _
 have HKR:Hid (Kept [(⟨r,0,none⟩,.slice none 0 0),(⟨r,1,none⟩,.slice none 0 0),(⟨r,2,none⟩,.slice none 0 0)] w W):=(((Kept.nil_of hb).cons_of (by rw[hW,hr];go_simp)).cons_of (by rw[hW,hr];go_simp)).cons_of (by rw[hW,hr];go_simp);have HFR:Hid (Free r W):=⟨by rw[hW,hr];simp,fun j=>by rw[hW,hr];go_simp⟩;have HRW:=Lib.hid (hrow.later hb)
 have hwr:w.heap.size≤r:=by omega
 have Hr:=Lib.hid hr;have HW:=Lib.hid hW;have HLN:Hid (ps.length=n):=hrow.len;clear hrow hsp hr hW hb;go_enter Tryz.func32,Tryz.ntmps32;go_wp2_with fail;rw[← Hr.out,← HW.out]
 go_loopw [8] (fun i wr=>∃ (k:Nat),k≤n∧i = .int .i64 k∧Hid (∀ (j:Nat) (h:j<ps.length),j<k→rightKB ps[j].k=true)∧Hid (Kept [(⟨r,0,none⟩,.slice none 0 0),(⟨r,1,none⟩,.slice none 0 0),(⟨r,2,none⟩,.slice none 0 0)] w wr)∧Hid (Free r wr)∧Hid (RowP wr A n c ps)) (fun i _=>n-(intOf i).toNat)
 case atStart=>exact⟨0,by omega,by first | rfl | trivial,fun j _ h=>absurd h (by omega),HKR.out,HFR.out,HRW.out⟩
 case round=>
  clear HKR HFR HRW;obtain⟨k,hk,rfl,HI,HKR,HFR,HRW⟩:=hrel
  by_cases hlt:k<n
  ·have hkl:k<ps.length:=by rw[HLN.out];exact hlt
   obtain⟨b,o,rfl,hb,hc⟩:=HRW.out.at_ (by omega);obtain⟨c0,c1,c2⟩:=hc k hkl;have hrp:=HRW.out.each _ (List.getElem_mem hkl);have hmem:ps[k]∈ps:=List.getElem_mem hkl;obtain⟨p,hp⟩:∃ p,p=ps[k]:=⟨_,rfl⟩;rw[← hp]at c0 c1 c2 hrp hmem;have HP:=Lib.hid hp;have HM:=Lib.hid hmem;obtain⟨⟨t,cs⟩,⟨Ae,ne,ce⟩,⟨Ak,nk,ck⟩,⟨Ca,na,ca9⟩⟩:=p;dsimp only at c0 c1 c2;obtain⟨W1,hW1⟩:∃ W,W=wr.alloc (.cells #[.slice Ae ne ce,.slice Ak nk ck,.slice Ca na ca9] 29):=⟨_,rfl⟩
   have hb1:Below wr.heap.size wr W1:=by rw[hW1];exact Dt.box_below _ _ _
   have HRW1:=Lib.hid (HRW.out.later hb1);have HKR1:=Lib.hid (HKR.out.later hb1);have HFR1:=Lib.hid (HFR.out.later hb1);have hrp1:=hrp.later hb1;obtain⟨y,hy⟩:∃ y,rightKB (t,cs)=y:=⟨_,rfl⟩;have hbd:=And.intro (sumN_mem HM.out) (sumC_mem HM.out);have hq:nodes t≤1000:=Nat.le_trans hbd.1 HSP.out.1;have hq2:na≤1000:=Nat.le_trans hbd.2 HSP.out.2;have hone:=rightK_any t cs Ae Ak Ca ne nk ce ck na ca9 W1 (by omega) hrp1.len (by omega) hrp1.tree hrp1.ctx;rw[hy]at hone;have HONE:=Lib.hid hone;have HY:=Lib.hid hy;have HW1:=Lib.hid hW1;clear hc hrp hp hmem hW1 hb1 hrp1 hbd hq hq2 hone hy HKR HFR HRW;go_wp2_with fail;rw[← HW1.out];refine HONE.out.mono ?_;rintro e w2 ⟨rfl,hb2⟩;have HRW:=Lib.hid (HRW1.out.later hb2);have HKR:=Lib.hid (HKR1.out.later hb2);have HFR:=Lib.hid (HFR1.out.later hb2);clear hb2 HRW1 HKR1 HFR1 c0 c1 c2
   cases y with
   | false=>
    obtain⟨z0,z1,z2,-⟩:=HKR.out.cj;have m0:=HFR.out.2 0;have m1:=HFR.out.2 1;have m2:=HFR.out.2 2;obtain⟨W9,hW9⟩:∃ W,W=((w2.setCell ⟨r,0,none⟩ (.slice none 0 0)).setCell ⟨r,1,none⟩ (.slice none 0 0)).setCell ⟨r,2,none⟩ (.slice none 0 0):=⟨_,rfl⟩
    have HB9:Hid (Below w.heap.size w W9):=by
     unfold Hid;rw[hW9];exact ((HKR.out.below.setCell (p:=⟨r,0,none⟩) hwr _).setCell (p:=⟨r,1,none⟩) hwr _).setCell (p:=⟨r,2,none⟩) hwr _
    have HOW9:Hid (OwC W9 w.heap.size noneK none 0 0 none 0 0 none 0 0):=OwC.no _ _
    have l0:W9.cell? ⟨r,0,none⟩=some (.slice none 0 0):=by rw[hW9];go_simp
    have l1:W9.cell? ⟨r,1,none⟩=some (.slice none 0 0):=by rw[hW9];go_simp
    have l2:W9.cell? ⟨r,2,none⟩=some (.slice none 0 0):=by rw[hW9];go_simp
    have HW9:=Lib.hid hW9;clear hW9;go_wp2_with fail;rw[← HW9.out];refine bodyPost_ret (v:=.tuple #[.agg #[.slice none 0 0,.slice none 0 0,.slice none 0 0],.int .i64 1]) (by simp[results,Tryz.results32,go_sem,l0,l1,l2]) rfl ⟨noneK,1,fun h=>absurd (h _ HM.out) (fun h2=>by have h3:=rightKB_iff.2 h2;rw[HY.out]at h3;cases h3),fun _=>⟨rfl,rfl⟩,none,0,0,none,0,0,none,0,0,rfl,HOW9.out,HB9.out⟩
   | true=>
    have HI2:Hid (∀ (j:Nat) (h:j<ps.length),j<k+1→rightKB ps[j].k=true):=fun j hj hl=>by
     by_cases e:j<k
     ·exact HI.out j hj e
     ·obtain rfl:j=k:=by omega
      rw[← HP.out];exact HY.out
    go_wp2_with fail;go_roundw
    case rel=>exact⟨k+1,by omega,by go_num,HI2.out,HKR.out,HFR.out,HRW.out⟩
    case measure=>simp[intOf];omega
  ·obtain rfl:k=n:=by omega
   have hall:∀ p∈ps,RK p.k:=fun p hp=>by
    obtain⟨j,hj,rfl⟩:=List.getElem_of_mem hp;exact rightKB_iff.1 (HI.out j hj (by rw[← HLN.out];exact hj))
   have HJA:=Lib.hid (joinAll_any k ps A c wr (by omega) HRW.out ⟨hall,HSP.out⟩);have HALL:=Lib.hid hall;clear hall;go_wp2_with fail;refine HJA.out.mono ?_;rintro e v4 ⟨x,hj,hn1,hl1,Re,rn,rc,Rk,rm,rd,Rc,rq,re,rfl,how,hb9⟩;have HX:=Lib.hid (And.intro hj (And.intro hn1 hl1));have hrB:r<wr.heap.size:=HFR.out.1;have HWB:w.heap.size≤wr.heap.size:=HKR.out.below.size;have HOW:=Lib.hid how;have HKR:=Lib.hid (HKR.out.later hb9);have HFR:=Lib.hid (HFR.out.later hb9);clear hj hn1 hl1 how hb9;obtain⟨z0,z1,z2,-⟩:=HKR.out.cj;have m0:=HFR.out.2 0;have m1:=HFR.out.2 1;have m2:=HFR.out.2 2;obtain⟨W9,hW9⟩:∃ W,W=((v4.setCell ⟨r,0,none⟩ (.slice Re rn rc)).setCell ⟨r,1,none⟩ (.slice Rk rm rd)).setCell ⟨r,2,none⟩ (.slice Rc rq re):=⟨_,rfl⟩
   have HB9:Hid (Below w.heap.size w W9):=by
    unfold Hid;rw[hW9];exact ((HKR.out.below.setCell (p:=⟨r,0,none⟩) hwr _).setCell (p:=⟨r,1,none⟩) hwr _).setCell (p:=⟨r,2,none⟩) hwr _
   have HOW9:Hid (OwC W9 w.heap.size x Re rn rc Rk rm rd Rc rq re):=by
    unfold Hid;rw[hW9];exact (HOW.out.set3 hrB _ _ _).mono HWB
   have l0:W9.cell? ⟨r,0,none⟩=some (.slice Re rn rc):=by rw[hW9];go_simp
   have l1:W9.cell? ⟨r,1,none⟩=some (.slice Rk rm rd):=by rw[hW9];go_simp
   have l2:W9.cell? ⟨r,2,none⟩=some (.slice Rc rq re):=by rw[hW9];go_simp
   have HW9:=Lib.hid hW9;clear hW9;go_wp2_with fail;rw[← HW9.out];refine bodyPost_ret (v:=.tuple #[.agg #[.slice Re rn rc,.slice Rk rm rd,.slice Rc rq re],.int .i64 0]) (by simp[results,Tryz.results32,go_sem,l0,l1,l2]) rfl ⟨x,0,fun _=>⟨rfl,HX.out⟩,fun h=>absurd HALL.out h,Re,rn,rc,Rk,rm,rd,Rc,rq,re,rfl,HOW9.out,HB9.out⟩
end Cs
end Go.Proofs.YtjpcechcefhcfaaGreat
