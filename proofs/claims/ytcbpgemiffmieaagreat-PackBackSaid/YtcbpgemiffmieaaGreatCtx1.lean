/- Sets of dots, the program's: a context center by center ('split'). -/
import Derived.Test.YtcbpgemiffmieaaGreatG00
import Derived.Test.YtcbpgemiffmieaaGreatG01
namespace Go.Proofs.YtcbpgemiffmieaaGreat
open Go.ChangeShapes Go.WideShapes Go.ChangeAt Go.RowKit
namespace Cx
open Sp Rw

noncomputable def rightCB (l:List S3):Bool:=@decide (RightC l) (Classical.propDecidable _)
theorem rightCB_true {l:List S3} (h:RightC l):rightCB l=true:=by unfold rightCB;exact @decide_eq_true _ (Classical.propDecidable _) h
theorem rightCB_false {l:List S3} (h:¬RightC l):rightCB l=false:=by unfold rightCB;exact @decide_eq_false _ (Classical.propDecidable _) h
theorem of_rightCB {l:List S3} (h:rightCB l=true):RightC l:=by unfold rightCB at h;exact @of_decide_eq_true _ (Classical.propDecidable _) h
theorem not_rightCB {l:List S3} (h:rightCB l=false):¬RightC l:=by unfold rightCB at h;exact @of_decide_eq_false _ (Classical.propDecidable _) h
theorem dropC_at {l:List S3} {k:Nat} (hk:k<l.length) {r:S3} (hr:r=l[k]):l.drop k=r::l.drop (k+1):=by rw[hr];exact List.drop_eq_getElem_cons hk
theorem part_take {l:List S3} {k:Nat} (hk:k<l.length) {r:S3} (hr:r=l[k]) (d:Int):part (l.take (k+1)) d=if r.1=d then part (l.take k) d++[r.2]else part (l.take k) d:=by
 rw[List.take_succ_eq_append_getElem hk,part_append,← hr,part_cons,part_nil]
 split <;> simp
def SvIs (w:World) (s:SV) (r:List (Int×Int)):Prop:=r.length=s.n∧Rd w w.heap.size 2 s.A s.n s.c (runsC r)
def SplitIs (l:List S3) (b:Bool) (w:World) (e:Ending) (w':World):Prop:=
 ∃ s:Nat→SV,e = .returned (.tuple #[.agg #[.slice (s 0).A (s 0).n (s 0).c,.slice (s 1).A (s 1).n (s 1).c,.slice (s 2).A (s 2).n (s 2).c,.slice (s 3).A (s 3).n (s 3).c],.bool b]) ∧
  Hid (∀ d:Nat,d<4→SvIs w' (s d) (if b then part l d else []))∧Below w.heap.size w w'
theorem infoS:(Tryz.prog.info? 100).map (fun i=>(i.zero,i.size,i.bytes))=some (some (.agg #[.int .i64 0,.int .i64 0,.int .i64 0]),3,24):=by kernel_rfl
theorem upd_part {l:List S3} {k d:Nat} (hk:k<l.length) {x y:Int} (hr:((d:Int),x,y)=l[k]) :
  upd (fun i=>runsC (part (l.take k) i)) d (runsC (part (l.take k) d)++[.int .i64 x,.int .i64 y])=fun i:Nat=>runsC (part (l.take (k+1)) i):=by
 funext i
 rw[part_take hk hr]
 by_cases h:i=d
 ·subst h
  rw[upd_same,if_pos rfl,runsC_append];rfl
 ·rw[upd_other _ _ h,if_neg (by intro e;exact h (Int.ofNat.inj e.symm))]
theorem infoRs:(Tryz.prog.info? 147).map (fun i=>(i.zero,i.size,i.bytes))=some (some (.slice none 0 0),1,24):=by kernel_rfl
theorem index_parts (s:Nat→SV) (k:Nat) (hk:k<4) (W:World):(Instr.index 149 (.agg #[.slice (s 0).A (s 0).n (s 0).c,.slice (s 1).A (s 1).n (s 1).c,.slice (s 2).A (s 2).n (s 2).c,.slice (s 3).A (s 3).n (s 3).c]) (.int .i64 k)).run Tryz.prog W = .ok (.slice (s k).A (s k).n (s k).c) W:=by
 obtain⟨i0,hi0,_,hz1,_⟩:=info_of infoRs
 have hs:∀ W,(sizeOf 147).run Tryz.prog W = .ok 1 W:=fun W=>by simp[sizeOf,typeInfo,hi0,hz1]
 have ha:∀ W,(isAgg 147).run Tryz.prog W = .ok false W:=fun W=>by simp[isAgg,run_underlying Tryz.underlying147]
 rcases (by omega:k=0∨k=1∨k=2∨k=3)with rfl | rfl | rfl | rfl <;> simp[Instr.index,run_underlying Tryz.underlying149,asIntOf,go_sem,hs,ha]
def put4 (g:Nat) (v0 v1 v2 v3:Value) (W:World):World:=(((W.setCell ⟨g,0,none⟩ v0).setCell ⟨g,1,none⟩ v1).setCell ⟨g,2,none⟩ v2).setCell ⟨g,3,none⟩ v3
theorem put4_cells {g:Nat} {W:World} {v0 v1 v2 v3 u0 u1 u2 u3:Value} (hf:Free g W) (k0:W.cell? ⟨g,0,none⟩=some u0) (k1:W.cell? ⟨g,1,none⟩=some u1) (k2:W.cell? ⟨g,2,none⟩=some u2) (k3:W.cell? ⟨g,3,none⟩=some u3) :
  (put4 g v0 v1 v2 v3 W).cell? ⟨g,0,none⟩=some v0∧(put4 g v0 v1 v2 v3 W).cell? ⟨g,1,none⟩=some v1∧(put4 g v0 v1 v2 v3 W).cell? ⟨g,2,none⟩=some v2∧(put4 g v0 v1 v2 v3 W).cell? ⟨g,3,none⟩=some v3:=by
 have m0:=hf.2 0;have m1:=hf.2 1;have m2:=hf.2 2;have m3:=hf.2 3;unfold put4
 refine⟨?_,?_,?_,?_⟩ <;> go_simp
theorem put4_below {B g:Nat} {w W:World} {v0 v1 v2 v3:Value} (h:Below B w W) (hg:B≤g):Below B w (put4 g v0 v1 v2 v3 W):=(((h.setCell (p:=⟨g,0,none⟩) hg _).setCell (p:=⟨g,1,none⟩) hg _).setCell (p:=⟨g,2,none⟩) hg _).setCell (p:=⟨g,3,none⟩) hg _
theorem put4_rd {B g sz n c:Nat} {W:World} {A:Option Addr} {xs:List Value} {v0 v1 v2 v3:Value} (h:Rd W B sz A n c xs) (hg:∀ b o,A=some ⟨b,o,none⟩→b≠g):Rd (put4 g v0 v1 v2 v3 W) B sz A n c xs:=
 ⟨h.len,h.cap,h.one,fun hn=>by
  obtain⟨b,o,e,hb,hc⟩:=h.at_ hn;refine⟨b,o,e,hb,fun j u hu=>?_⟩;have hne:=hg b o e
  have hx:∀ (k:Nat),(⟨g,k,none⟩:Addr)≠⟨b,o+j,none⟩:=fun k e=>by injection e with e;exact hne e.symm
  unfold put4;rw[World.cell?_setCell_other _ _ _ _ (hx 3),World.cell?_setCell_other _ _ _ _ (hx 2),World.cell?_setCell_other _ _ _ _ (hx 1),World.cell?_setCell_other _ _ _ _ (hx 0)]
  exact hc j u hu⟩
theorem put4_size {g:Nat} {W:World} {v0 v1 v2 v3:Value} : (put4 g v0 v1 v2 v3 W).heap.size=W.heap.size:=by simp[put4,World.setCell]
set_option maxRecDepth 100000 in
set_option maxHeartbeats 2000000 in
theorem split_any (l:List S3) (n:Nat) (A:Option Addr) (c:Nat) (w:World) (hl:l.length=n) (hn:n≤100000) (hr:Rd w w.heap.size 3 A n c (spsC l)) (b:Bool) (hb:rightCB l=b) :
  Calls Tryz.prog 95 #[.slice A n c] w (SplitIs l b w):=by
 obtain⟨g,hg⟩:∃ g,g=w.heap.size:=⟨_,rfl⟩;have HR:=Lib.hid hr;have HL:=Lib.hid hl;have HB:=Lib.hid hb;have HG:=Lib.hid hg;clear hr hl hb hg;go_enter Tryz.func95,Tryz.ntmps95;go_wp2;rw[← HG.out]
 go_loopw [5,12] (fun le i wr=>∃ (k:Nat) (m:Int) (s:Nat→SV),k≤n∧le = .int .i64 m∧i = .int .i64 k∧Hid (0≤m)∧Hid (Rows4 wr (g+2) 184 2 (g+1) s (fun d=>runsC (part (l.take k) d)))∧Hid (∀ d:Nat,d<4→(part (l.take k) d).length=(s d).n)∧Hid (RiseC 0 l↔RiseC m (l.drop k))∧Hid (Free g wr)∧Hid (Kept [(⟨g,0,none⟩,.slice none 0 0),(⟨g,1,none⟩,.slice none 0 0),(⟨g,2,none⟩,.slice none 0 0),(⟨g,3,none⟩,.slice none 0 0)] w wr)) (fun _ i _=>n-(intOf i).toNat)
 case atStart=>
  rw[HG.out];refine⟨0,0,fun _=>sv0,by omega,rfl,rfl,Int.le_refl _,Rows4.nil (by omega) (by simp) ⟨by simp,fun j=>by go_simp⟩ (fun d hd=>?_),fun d _=>rfl,Iff.rfl,⟨by simp;omega,fun j=>by go_simp⟩,?_⟩
  ·rcases (by omega:d=0∨d=1∨d=2∨d=3)with rfl | rfl | rfl | rfl <;> go_simp
  ·exact ((((((Kept.nil w).alloc _).alloc _).cons_of (by go_simp)).cons_of (by go_simp)).cons_of (by go_simp)).cons_of (by go_simp)
 case round=>
  obtain⟨k,m,s,hk,rfl,rfl,HM,HS,HN,HI,HF,HK⟩:=hrel;have hgl:=HF.out.1;have m0:=HF.out.2 0;have m1:=HF.out.2 1;have m2:=HF.out.2 2;have m3:=HF.out.2 3;have k0:=HK.out.c0;have k1:=HK.out.c1;have k2:=HK.out.c2;have k3:=HK.out.c3
  by_cases hlt:k<n
  ·have hkl:k<l.length:=by rw[HL.out];exact hlt
   obtain⟨b1,o,rfl,hbl,hc⟩:=rd_span HR.out hlt;obtain⟨q0,q1,q2⟩:=hc k hkl;obtain⟨p,hp⟩:∃ p,p=l[k]:=⟨_,rfl⟩;have HD:=Lib.hid (dropC_at hkl hp);have HP:Hid (p=l[k]):=Lib.hid hp;rw[← hp]at q0 q1 q2;obtain⟨dc,x,y⟩:=p;have q0:=(HK.out.below.cell (p:=⟨b1,o+k*3,none⟩) hbl).trans q0;have q1:=(HK.out.below.cell (p:=⟨b1,o+k*3+1,none⟩) hbl).trans q1;have q2:=(HK.out.below.cell (p:=⟨b1,o+k*3+2,none⟩) hbl).trans q2;obtain⟨j0,j1,j2,j3⟩:=put4_cells (v0:=.slice none 0 0) (v1:=.slice none 0 0) (v2:=.slice none 0 0) (v3:=.slice none 0 0) HF.out k0 k1 k2 k3
   have hps:g<(put4 g (.slice none 0 0) (.slice none 0 0) (.slice none 0 0) (.slice none 0 0) wr).heap.size:=by rw[put4_size];exact hgl
   have J0:=Lib.hid ((World.cell?_alloc_lt _ (.cells #[.int .i64 dc,.int .i64 x,.int .i64 y] 100) ⟨g,0,none⟩ hps).trans j0);have J1:=Lib.hid ((World.cell?_alloc_lt _ (.cells #[.int .i64 dc,.int .i64 x,.int .i64 y] 100) ⟨g,1,none⟩ hps).trans j1);have J2:=Lib.hid ((World.cell?_alloc_lt _ (.cells #[.int .i64 dc,.int .i64 x,.int .i64 y] 100) ⟨g,2,none⟩ hps).trans j2);have J3:=Lib.hid ((World.cell?_alloc_lt _ (.cells #[.int .i64 dc,.int .i64 x,.int .i64 y] 100) ⟨g,3,none⟩ hps).trans j3);have HBE:Hid (Below w.heap.size w ((put4 g (.slice none 0 0) (.slice none 0 0) (.slice none 0 0) (.slice none 0 0) wr).alloc (.cells #[.int .i64 dc,.int .i64 x,.int .i64 y] 100))):=(put4_below HK.out.below (by rw[HG.out];exact Nat.le_refl _)).alloc (by rw[put4_size];exact HK.out.below.size) _
   clear j0 j1 j2 j3 hps;clear hc hp
   by_cases h1:dc<m
   ·have f1:decide (dc<m)=true:=by simpa using h1
    have HBF:Hid (b=false):=by
     unfold Hid;rw[← HB.out];refine rightCB_false fun h=>?_;have:=HI.out.1 h.rise;rw[HD.out]at this;have:=this.1;omega
    go_wp2;have j0:=J0.out;have j1:=J1.out;have j2:=J2.out;have j3:=J3.out;unfold put4 at j0 j1 j2 j3;refine bodyPost_ret (v:=.tuple #[.agg #[.slice none 0 0,.slice none 0 0,.slice none 0 0,.slice none 0 0],.bool false]) (by simp[results,Tryz.results95,go_sem,j0,j1,j2,j3]) rfl ⟨fun _=>sv0,by rw[HBF.out];rfl,?_,HBE.out⟩;rw[HBF.out];exact fun d _=>⟨rfl,Rd.nil _⟩
   ·have f1:decide (dc<m)=false:=by simpa using h1
    by_cases h2:4≤dc
    ·have f2:decide (4≤dc)=true:=by simpa using h2
     have HBF:Hid (b=false):=by
      unfold Hid;rw[← HB.out];refine rightCB_false fun h=>?_;have:=HI.out.1 h.rise;rw[HD.out]at this;have:=this.2.1;dsimp only at this;omega
     go_wp2;have j0:=J0.out;have j1:=J1.out;have j2:=J2.out;have j3:=J3.out;unfold put4 at j0 j1 j2 j3;refine bodyPost_ret (v:=.tuple #[.agg #[.slice none 0 0,.slice none 0 0,.slice none 0 0,.slice none 0 0],.bool false]) (by simp[results,Tryz.results95,go_sem,j0,j1,j2,j3]) rfl ⟨fun _=>sv0,by rw[HBF.out];rfl,?_,HBE.out⟩;rw[HBF.out];exact fun d _=>⟨rfl,Rd.nil _⟩
    ·have f2:decide (4≤dc)=false:=by simpa using h2
     clear J0 J1 J2 J3 HBE;obtain⟨d,rfl⟩:∃ d:Nat,dc=(d:Int):=⟨dc.toNat,by have:=HM.out;omega⟩
     have hd4:(d:Int)<4:=by omega
     have hd4n:d<4:=by omega
     obtain⟨h,hh⟩:∃ h,h=wr.heap.size:=⟨_,rfl⟩;obtain⟨W,hW⟩:∃ W,W=wr.alloc (.cells #[.int .i64 d,.int .i64 x,.int .i64 y] 100):=⟨_,rfl⟩
     have hWd:W.heap.size=h+1:=by rw[hW,hh];simp
     have hbel:Below wr.heap.size wr W:=by rw[hW];exact (Below.refl _ _).alloc (Nat.le_refl _) _
     have c0:W.cell? ⟨h,0,none⟩=some (.int .i64 d):=by rw[hW,hh];go_simp
     have c1:W.cell? ⟨h,1,none⟩=some (.int .i64 x):=by rw[hW,hh];go_simp
     have c2:W.cell? ⟨h,2,none⟩=some (.int .i64 y):=by rw[hW,hh];go_simp
     have HS1:=(HS.out.later hbel).later ((Below.refl W.heap.size W).drew);have hnk:=(HN.out d hd4n).symm▸Nat.le_trans (part_len (l.take k) d) (by rw[List.length_take];exact Nat.min_le_left _ _)
     obtain⟨A',c',w',r1,r2,r3,r4,r5⟩:=HS1.push Tryz.underlying147 infoR rfl (by omega) (by omega) hd4n W.heap.size rfl [.int .i64 x,.int .i64 y] rfl (by intro u hu;simp at hu;rcases hu with rfl | rfl <;> rfl) (by omega)
     have hne:(s d).val.ownBlock≠some h:=fun e=>by have:=(HS.out.lt hd4n e).2;omega
     have hlt2:h<W.drew.heap.size:=by show h<W.heap.size;omega
     have i0:w'.cell? ⟨h,0,none⟩=some (.int .i64 d):=(r2 h hne hlt2 0).trans c0;have i1:w'.cell? ⟨h,1,none⟩=some (.int .i64 x):=(r2 h hne hlt2 1).trans c1;have i2:w'.cell? ⟨h,2,none⟩=some (.int .i64 y):=(r2 h hne hlt2 2).trans c2;have hl1:g+1<W.heap.size:=HS1.free.1;have hl2:h<W.heap.size:=hlt2
     have hgh:g+1<h:=by have:=HS.out.free.1;omega
     have hgh2:h≠g+1:=by omega
     have hgh3:¬(g+1=h):=by omega
     have ig:w'.cell? ⟨g+1,d,none⟩=some (.slice (s d).A (s d).n (s d).c):=(r2 (g+1) (fun e=>by have:=(HS.out.lt hd4n e).1;omega) (HS1.free.1) d).trans (HS1.cell d hd4n);have cg:W.cell? ⟨g+1,d,none⟩=some (.slice (s d).A (s d).n (s d).c):=HS1.cell d hd4n;have mg:=r3.2 d
     have HI2:Hid (RiseC 0 l↔RiseC (d:Int) (l.drop (k+1))):=by
      refine Iff.trans HI.out ?_;rw[HD.out];exact⟨fun h=>h.2.2,fun h=>⟨by show m≤(d:Int);omega,hd4,h⟩⟩
     have HN2:Hid (∀ i:Nat,i<4→(part (l.take (k+1)) i).length=(upd s d ⟨A',(s d).n+1,c'⟩ i).n):=fun i hi=>by
      rw[part_take hkl HP.out]
      by_cases he:i=d
      ·subst he
       rw[upd_same,if_pos rfl,List.length_append,HN.out i hi];rfl
      ·rw[upd_other _ _ he,if_neg (by intro e;exact he (Int.ofNat.inj e.symm)),HN.out i hi]
     have HS2:Hid (Rows4 (w'.setCell ⟨g+1,d,none⟩ (.slice A' ((s d).n+1) c')) (g+2) 184 2 (g+1) (upd s d ⟨A',(s d).n+1,c'⟩) (fun i=>runsC (part (l.take (k+1)) i))):=by
      have:=r5;rw[upd_part hkl HP.out]at this;exact this
     have hb4:Below (g+2) wr w':=((Below.trans (hbel.mono HS.out.high) ((Below.refl _ _).drew))).trans r4;have HF2:Hid (Free g (w'.setCell ⟨g+1,d,none⟩ (.slice A' ((s d).n+1) c'))):=Free.set ⟨Nat.lt_of_lt_of_le hgl hb4.size,fun j=>(hb4.frozen (p:=⟨g,j,none⟩) (by show g<g+2;omega)).trans (HF.out.2 j)⟩ _ _
     have HK2:Hid (Kept [(⟨g,0,none⟩,.slice none 0 0),(⟨g,1,none⟩,.slice none 0 0),(⟨g,2,none⟩,.slice none 0 0),(⟨g,3,none⟩,.slice none 0 0)] w (w'.setCell ⟨g+1,d,none⟩ (.slice A' ((s d).n+1) c'))):=by
      refine Kept.set ⟨HK.out.below.trans (hb4.mono (by rw[HG.out];omega)),fun q hq=>?_⟩ (by show w.heap.size≤g+1;rw[HG.out];omega) (by simp) _
      have hqb:q.1.block=g:=by simp at hq;rcases hq with rfl | rfl | rfl | rfl <;> rfl
      exact⟨by rw[hqb];exact Nat.lt_of_lt_of_le hgl hb4.size,(hb4.cell (p:=q.1) (by rw[hqb];omega)).trans (HK.out.2 q hq).2⟩
     have Hrun:=Lib.hid r1;have HW:=Lib.hid hW;have HH:=Lib.hid hh;obtain⟨sA,sn,sc,hs⟩:∃ sA sn sc,s d=⟨sA,sn,sc⟩:=⟨_,_,_,rfl⟩;rw[hs]at Hrun cg ig HS2 HN2 HF2 HK2;have HS3:=Lib.hid hs;clear r1 r2 r3 r4 r5 hb4 hne hlt2 hWd hbel hW hh HS1 hnk k0 k1 k2 k3 m0 m1 m2 m3 hs HS HN HF HK HI HD hgl;dsimp only at Hrun cg ig HS2 HN2 HF2 HK2;go_wp2;rw[← HW.out,← HH.out];clear q0 q1 q2;refine wp_region_held_drew (S:=fun W=>W.cell? ⟨h,0,none⟩=some (.int .i64 d)∧W.cell? ⟨h,1,none⟩=some (.int .i64 x)∧W.cell? ⟨h,2,none⟩=some (.int .i64 y)) (by kernel_rfl) (by go_keep) (fun hHeld=>?_);refine Tk 0 28 ?_;refine Tk 1 29 ?_;refine Tk 2 30 ?_;refine Tk 3 31 ?_;refine Tk 4 32 ?_;refine Tk 6 34 ?_;refine Tk 7 35 ?_;refine Tk 8 36 ?_;refine Tk 9 37 ?_;refine Tk 10 38 ?_;refine wpAnyH_ready (rs:=[5,11]) (by kernel_rfl) (by simp) ?_;refine AllReadyH.cons (o:=⟨some 33,_,_,_,_,_⟩) rfl (fun K hK=>?_) (AllReadyH.cons (o:=⟨some 39,_,_,_,_,_⟩) rfl (fun K hK=>?_) AllReadyH.nil)
     ·go_simp
      refine Th hK ?_ (fun hHeld2=>?_)
      ·exact hHeld
      clear hK K hHeld;have hHeld:=hHeld2;clear hHeld2;refine Tc 11 (fun K hK=>?_);go_simp;refine Th hK ?_ (fun hHeld2=>?_)
      ·(try dsimp only);go_keep
      clear hK K hHeld;have hHeld:=hHeld2;clear hHeld2;refine Tc 12 (fun K hK=>?_);refine upon_append _ _ _ rfl rfl rfl Hrun.out ?_;clear hHeld;refine Th hK ?_ (fun hHeld=>?_)
      ·exact⟨i0,i1,i2⟩
      clear hK K;refine Tk 13 41 ?_;refine Tc 14 (fun K hK=>?_);go_simp;refine Th hK ?_ (fun hHeld2=>?_)
      ·(try dsimp only);go_keep
      clear hK K hHeld;have hHeld:=hHeld2;clear hHeld2;refine wpAnyH_done (by kernel_rfl) ?_ _;clear Hrun c0 c1 c2 i0 i1 i2 cg ig mg hHeld;go_wp2;go_roundw
      case rel=>exact⟨k+1,d,_,by omega,rfl,by go_num,(by unfold Hid;omega),HS2.out,HN2.out,HI2.out,HF2.out,HK2.out⟩
      case measure=>simp[intOf];omega
     ·go_simp
      refine Th hK ?_ (fun hHeld2=>?_)
      ·(try dsimp only);go_keep
      clear hK K hHeld;have hHeld:=hHeld2;clear hHeld2;refine Tc 5 (fun K hK=>?_);go_simp;refine Th hK ?_ (fun hHeld2=>?_)
      ·exact hHeld
      clear hK K hHeld;have hHeld:=hHeld2;clear hHeld2;refine Tc 12 (fun K hK=>?_);refine upon_append _ _ _ rfl rfl rfl Hrun.out ?_;clear hHeld;refine Th hK ?_ (fun hHeld=>?_)
      ·exact⟨i0,i1,i2⟩
      clear hK K;refine Tk 13 41 ?_;refine Tc 14 (fun K hK=>?_);go_simp;refine Th hK ?_ (fun hHeld2=>?_)
      ·(try dsimp only);go_keep
      clear hK K hHeld;have hHeld:=hHeld2;clear hHeld2;refine wpAnyH_done (by kernel_rfl) ?_ _;clear Hrun c0 c1 c2 i0 i1 i2 cg ig mg hHeld;go_wp2;go_roundw
      case rel=>exact⟨k+1,d,_,by omega,rfl,by go_num,(by unfold Hid;omega),HS2.out,HN2.out,HI2.out,HF2.out,HK2.out⟩
      case measure=>simp[intOf];omega
  ·obtain rfl:k=n:=by omega
   have hall:l.take k=l:=List.take_of_length_le (by rw[HL.out];omega);have hrise:RiseC 0 l:=HI.out.2 (by rw[List.drop_eq_nil_of_le (by rw[HL.out];omega)];trivial);rw[hall]at HS HN;have HRI:=Lib.hid hrise;have p0:=HS.out.cell 0 (by omega);have p1:=HS.out.cell 1 (by omega);have p2:=HS.out.cell 2 (by omega);have p3:=HS.out.cell 3 (by omega);clear hall hrise HI HM HR k0 k1 k2 k3 m0 m1 m2 m3;go_wp2;clear p0 p1 p2 p3
   go_loopw [44] (fun i wr=>∃ (d:Nat),d≤4∧i = .int .i64 d∧Hid (∀ j:Nat,j<d→rightB (part l j)=true)∧Hid (Rows4 wr (g+2) 184 2 (g+1) s (fun d=>runsC (part l d)))∧Hid (Free g wr)∧Hid (Kept [(⟨g,0,none⟩,.slice none 0 0),(⟨g,1,none⟩,.slice none 0 0),(⟨g,2,none⟩,.slice none 0 0),(⟨g,3,none⟩,.slice none 0 0)] w wr)) (fun i _=>4-(intOf i).toNat)
   case atStart=>exact⟨0,by omega,rfl,fun j hj=>by omega,HS.out,HF.out,HK.out⟩
   case round=>
    obtain⟨d,hd,rfl,HG2,HS2,HF2,HK2⟩:=hrel;have hgl2:=HF2.out.1;clear HS HF HK
    by_cases hd4:d<4
    ·have hix:=index_parts s d hd4
     have HRT:=Lib.hid (right_any (part l d) (s d).n (s d).A (s d).c wr (HN.out d hd4) (by have:=HN.out d hd4;have:=part_len l d;have:=HL.out;omega) (HS2.out.rd hd4))
     cases hrb:rightB (part l d)with
     | false=>
      rw[hrb]at HRT
      have HBF:Hid (b=false):=by
       unfold Hid;rw[← HB.out];refine rightCB_false fun h=>?_;have:=h.part d (by unfold Cen;omega)
       have h2:rightB (part l d)=true:=by unfold rightB;exact decide_eq_true this
       rw[hrb]at h2
       cases h2
      clear hrb;go_wp2_with (go_at_call 126;refine HRT.out.mono ?_;rintro e w3 ⟨rfl,hb3⟩;have HF3:=HF2.out.later hb3;have HK3:=HK2.out.later hb3;have m0:=HF3.2 0;have m1:=HF3.2 1;have m2:=HF3.2 2;have m3:=HF3.2 3;have k0:=HK3.c0;have k1:=HK3.c1;have k2:=HK3.c2;have k3:=HK3.c3);obtain⟨j0,j1,j2,j3⟩:=put4_cells (v0:=.slice none 0 0) (v1:=.slice none 0 0) (v2:=.slice none 0 0) (v3:=.slice none 0 0) HF3 k0 k1 k2 k3;unfold put4 at j0 j1 j2 j3;refine bodyPost_ret (v:=.tuple #[.agg #[.slice none 0 0,.slice none 0 0,.slice none 0 0,.slice none 0 0],.bool false]) (by simp[results,Tryz.results95,go_sem,j0,j1,j2,j3]) rfl ⟨fun _=>sv0,by rw[HBF.out];rfl,?_,put4_below HK3.below (by rw[HG.out];exact Nat.le_refl _)⟩;rw[HBF.out];exact fun d _=>⟨rfl,Rd.nil _⟩
     | true=>
      rw[hrb]at HRT
      have HG3:Hid (∀ j:Nat,j<d+1→rightB (part l j)=true):=fun j hj=>by
       rcases (by omega:j<d∨j=d)with h | rfl
       ·exact HG2.out j h
       ·exact hrb
      clear hrb;go_wp2_with (go_at_call 126;refine HRT.out.mono ?_;rintro e w3 ⟨rfl,hb3⟩;have HS3:=Lib.hid (HS2.out.later hb3);have HF3:=Lib.hid (HF2.out.later hb3);have HK3:=Lib.hid (HK2.out.later hb3);clear hb3);go_roundw
      case rel=>exact⟨d+1,by omega,by go_num,HG3.out,HS3.out,HF3.out,HK3.out⟩
      case measure=>simp[intOf];omega
    ·have hd5:d=4:=by omega
     subst hd5
     have HBT:Hid (b=true):=by
      unfold Hid;rw[← HB.out];refine rightCB_true ⟨HRI.out,fun e he=>?_⟩
      rcases cen_cases he with rfl | rfl | rfl | rfl
      ·exact of_decide_eq_true (HG2.out 0 (by omega))
      ·exact of_decide_eq_true (HG2.out 1 (by omega))
      ·exact of_decide_eq_true (HG2.out 2 (by omega))
      ·exact of_decide_eq_true (HG2.out 3 (by omega))
     have p0:=HS2.out.cell 0 (by omega);have p1:=HS2.out.cell 1 (by omega);have p2:=HS2.out.cell 2 (by omega);have p3:=HS2.out.cell 3 (by omega);have m0:=HF2.out.2 0;have m1:=HF2.out.2 1;have m2:=HF2.out.2 2;have m3:=HF2.out.2 3;have k0:=HK2.out.c0;have k1:=HK2.out.c1;have k2:=HK2.out.c2;have k3:=HK2.out.c3;go_wp2;obtain⟨j0,j1,j2,j3⟩:=put4_cells (v0:=.slice (s 0).A (s 0).n (s 0).c) (v1:=.slice (s 1).A (s 1).n (s 1).c) (v2:=.slice (s 2).A (s 2).n (s 2).c) (v3:=.slice (s 3).A (s 3).n (s 3).c) HF2.out k0 k1 k2 k3;unfold put4 at j0 j1 j2 j3;refine bodyPost_ret (v:=.tuple #[.agg #[.slice (s 0).A (s 0).n (s 0).c,.slice (s 1).A (s 1).n (s 1).c,.slice (s 2).A (s 2).n (s 2).c,.slice (s 3).A (s 3).n (s 3).c],.bool true]) (by simp[results,Tryz.results95,go_sem,j0,j1,j2,j3]) rfl ⟨s,by rw[HBT.out],?_,put4_below HK2.out.below (by rw[HG.out];exact Nat.le_refl _)⟩
     rw[HBT.out];refine fun d hd=>⟨HN.out d hd,?_⟩;refine ((put4_rd (HS2.out.rd hd) (fun b o e hbg=>?_)).more (Nat.le_of_eq put4_size.symm):Rd (put4 g _ _ _ _ wr) _ _ _ _ _ _);have:=(HS2.out.lt hd (b:=b) (by unfold SV.val;rw[e];rfl)).1;omega
end Cx
end Go.Proofs.YtcbpgemiffmieaaGreat
