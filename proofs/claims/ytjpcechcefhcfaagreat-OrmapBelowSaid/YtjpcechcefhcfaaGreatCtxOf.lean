/- Sets of dots, the program's: the context of dots. -/
import Derived.Test.YtjpcechcefhcfaaGreatG00
import Derived.Test.YtjpcechcefhcfaaGreatG20
import Derived.Test.YtjpcechcefhcfaaGreatSpanOf
namespace Go.Proofs.YtjpcechcefhcfaaGreat
open Go.ChangeShapes Go.WideShapes Go.ChangeAt Go.RowKit
namespace Cx
open Sp Rw
def dotC (d:Int×Int):List Value:=[.int .i64 d.1,.int .i64 d.2]
theorem dotC_len (d:Int×Int):(dotC d).length=2:=rfl
theorem rd_dot {w:World} {B n c:Nat} {A:Option Addr} {l:List (Int×Int)} (h:Rd w B 2 A n c (l.flatMap dotC)) {m:Nat} (hm:m<n) :
  ∃ b o,A=some ⟨b,o,none⟩∧b<B∧∀ (i:Nat) (hi:i<l.length),w.cell? ⟨b,o+i*2,none⟩=some (.int .i64 l[i].1)∧w.cell? ⟨b,o+i*2+1,none⟩=some (.int .i64 l[i].2):=by
 obtain⟨b,o,e,hb,hc⟩:=rd_elem dotC_len h hm;exact⟨b,o,e,hb,fun i hi=>⟨hc i hi 0 _ rfl,hc i hi 1 _ rfl⟩⟩
def nums (l:List (Int×Int)) (d:Int):List Int:=(l.filter fun x=>decide (x.1=d)).map fun x=>x.2
theorem nums_append (a b:List (Int×Int)) (d:Int):nums (a++b) d=nums a d++nums b d:=by simp[nums]
theorem nums_one (x:Int×Int) (d:Int):nums [x] d=if x.1=d then [x.2]else []:=by
 unfold nums
 by_cases h:x.1=d <;> simp[h]
theorem nums_take {l:List (Int×Int)} {k:Nat} (hk:k<l.length) {x:Int×Int} (hx:x=l[k]) (d:Int):nums (l.take (k+1)) d=if x.1=d then nums (l.take k) d++[x.2]else nums (l.take k) d:=by
 rw[List.take_succ_eq_append_getElem hk,nums_append,← hx,nums_one]
 split <;> simp
theorem nums_mem {l:List (Int×Int)} {d v:Int} : v∈nums l d↔(d,v)∈l:=by
 unfold nums;simp only[List.mem_map,List.mem_filter,decide_eq_true_eq];constructor
 ·rintro⟨s,⟨hs,he⟩,rfl⟩
  subst he;exact hs
 ·intro h
  exact⟨(d,v),⟨h,rfl⟩,rfl⟩
theorem nums_len (l:List (Int×Int)) (d:Int):(nums l d).length≤l.length:=by
 unfold nums;rw[List.length_map];exact List.length_filter_le _ _
structure OfC (l:List (Int×Int)) (u:List S3):Prop where
 right:RightC u
 has:∀ d n,Cen d→(hasC u d n=true↔(d,n)∈l)
theorem OfC.eq {l:List (Int×Int)} {u u':List S3} (h:OfC l u) (h':OfC l u'):u=u':=extC h.right h'.right fun d n hd=>by
 have h1:=h.has d n hd;have h2:=h'.has d n hd
 cases e1:hasC u d n <;> cases e2:hasC u' d n <;> simp_all
theorem of_pre {l:List (Int×Int)} {r:Nat→List (Int×Int)} (h:∀ d:Nat,d<4→SetIs (nums l d) (r d)):OfC l (pre r 4):=by
 have e:∀ d,Cen d→((d.toNat:Nat):Int)=d∧d.toNat<4:=fun d hd=>⟨by have:=hd.1;omega,by have:=hd.1;have:=hd.2;omega⟩;rw[pre_four];refine⟨right_glue fun d hd=>?_,fun d n hd=>?_⟩
 ·exact (h d.toNat (e d hd).2).1
 ·unfold hasC
  rw[part_glue _ hd];have:=(h d.toNat (e d hd).2).2 n;rw[(e d hd).1]at this;exact this.trans nums_mem
def goodD (l:List (Int×Int)):Prop:=∀ x∈l,Dt.rightB x.1 x.2=true
theorem good_num {x:Int×Int} (h:Dt.rightB x.1 x.2=true):(0≤x.1∧x.1<4)∧1≤x.2∧x.2≤1099511627776:=by
 have:=of_decide_eq_true (p:=0≤x.1∧x.1<4∧1≤x.2∧x.2≤1099511627776) h;omega
theorem index_nums (s:Nat→SV) (k:Nat) (hk:k<4) (W:World):(Instr.index 149 (.agg #[.slice (s 0).A (s 0).n (s 0).c,.slice (s 1).A (s 1).n (s 1).c,.slice (s 2).A (s 2).n (s 2).c,.slice (s 3).A (s 3).n (s 3).c]) (.int .i64 k)).run Tryz.prog W = .ok (.slice (s k).A (s k).n (s k).c) W:=by
 have infoN:(Tryz.prog.info? 112).map (fun i=>(i.zero,i.size,i.bytes))=some (some (.slice none 0 0),1,24):=by kernel_rfl
 obtain⟨i0,hi0,_,hz1,_⟩:=info_of infoN
 have hs:∀ W,(sizeOf 112).run Tryz.prog W = .ok 1 W:=fun W=>by simp[sizeOf,typeInfo,hi0,hz1]
 have ha:∀ W,(isAgg 112).run Tryz.prog W = .ok false W:=fun W=>by simp[isAgg,run_underlying Tryz.underlying112]
 rcases (by omega:k=0∨k=1∨k=2∨k=3)with rfl | rfl | rfl | rfl <;> simp[Instr.index,run_underlying Tryz.underlying149,asIntOf,go_sem,hs,ha]
theorem upd_nums {l:List (Int×Int)} {k d:Nat} (hk:k<l.length) {y:Int} (hx:((d:Int),y)=l[k]) :
  upd (fun i=>intsC (nums (l.take k) i)) d (intsC (nums (l.take k) d)++[.int .i64 y])=fun i:Nat=>intsC (nums (l.take (k+1)) i):=by
 funext i
 rw[nums_take hk hx]
 by_cases h:i=d
 ·subst h
  rw[upd_same,if_pos rfl,intsC_append];rfl
 ·rw[upd_other _ _ h,if_neg (by intro e;exact h (Int.ofNat.inj e.symm))]
def OfIsC (l:List (Int×Int)) (n:Nat) (w:World) (e:Ending) (w':World):Prop:=
 (goodD l∧∃ u q A c,e = .returned (.tuple #[.slice A q c,.int .i64 0])∧Hid (u.length=q)∧Hid (OfC l u)∧q≤4*n∧Hid (Rd w' w'.heap.size 3 A q c (spsC u))∧Below w.heap.size w w') ∨
 (¬goodD l∧e = .returned (.tuple #[.slice none 0 0,.int .i64 1])∧Below w.heap.size w w')
def OfIsO (l:List (Int×Int)) (n:Nat) (w:World) (e:Ending) (w':World):Prop:=
 (goodD l∧∃ u q A c b,e = .returned (.tuple #[.slice A q c,.int .i64 0])∧Hid (u.length=q)∧Hid (OfC l u)∧q≤4*n∧Hid (w.heap.size≤b∧Own w' b 105 3 A q c (spsC u))∧Below w.heap.size w w') ∨
 (¬goodD l∧e = .returned (.tuple #[.slice none 0 0,.int .i64 1])∧Below w.heap.size w w')
set_option maxRecDepth 100000 in
set_option maxHeartbeats 4000000 in
theorem ofC_own (l:List (Int×Int)) (n:Nat) (A:Option Addr) (c:Nat) (w:World) (hl:l.length=n) (hn:n≤1000) (hr:Rd w w.heap.size 2 A n c (l.flatMap dotC)) :
  Calls Tryz.prog 96 #[.slice A n c] w (OfIsO l n w):=by
 obtain⟨g,hg⟩:∃ g,g=w.heap.size:=⟨_,rfl⟩;have HR:=Lib.hid hr;have HL:=Lib.hid hl;have HG:=Lib.hid hg;clear hr hl hg;go_enter Tryz.func96,Tryz.ntmps96;go_wp2;rw[← HG.out]
 go_loopw [14] (fun i wr=>∃ (k:Nat) (s:Nat→SV),k≤n∧i = .int .i64 k∧Hid (goodD (l.take k))∧Hid (Rows4 wr (g+1) 2 1 g s (fun d=>intsC (nums (l.take k) d)))∧Hid (∀ d:Nat,d<4→(nums (l.take k) d).length=(s d).n)∧Hid (Below w.heap.size w wr)) (fun i _=>n-(intOf i).toNat)
 case atStart=>
  rw[HG.out];refine⟨0,fun _=>sv0,by omega,rfl,fun x hx=>by simp at hx,Rows4.nil (by omega) (by simp) ⟨by simp,fun j=>by go_simp⟩ (fun d hd=>?_),fun d _=>rfl,Dt.box_below _ _ _⟩
  rcases (by omega:d=0∨d=1∨d=2∨d=3)with rfl | rfl | rfl | rfl <;> go_simp
 case round=>
  obtain⟨k,s,hk,rfl,HGD,HS,HN,HBL⟩:=hrel
  by_cases hlt:k<n
  ·have hkl:k<l.length:=by rw[HL.out];exact hlt
   obtain⟨b1,o,rfl,hbl,hc⟩:=rd_dot HR.out hlt;obtain⟨q0,q1⟩:=hc k hkl;obtain⟨p,hp⟩:∃ p,p=l[k]:=⟨_,rfl⟩;have HP:Hid (p=l[k]):=Lib.hid hp
   have hmem:p∈l:=by rw[hp];exact List.getElem_mem hkl
   have htk:l.take (k+1)=l.take k++[p]:=by rw[hp];exact List.take_succ_eq_append_getElem hkl
   rw[← hp]at q0 q1;obtain⟨dc,y⟩:=p;have q0:=(HBL.out.cell (p:=⟨b1,o+k*2,none⟩) hbl).trans q0;have q1:=(HBL.out.cell (p:=⟨b1,o+k*2+1,none⟩) hbl).trans q1;dsimp only at q0 q1;obtain⟨h,hh⟩:∃ h,h=wr.heap.size:=⟨_,rfl⟩;obtain⟨W,hW⟩:∃ W,W=wr.alloc (.cells #[.int .i64 dc,.int .i64 y] 47):=⟨_,rfl⟩
   have hbel:Below wr.heap.size wr W:=by rw[hW];exact Dt.box_below _ _ _
   have HK:Hid (Kept [(⟨h,0,none⟩,.int .i64 dc),(⟨h,1,none⟩,.int .i64 y)] wr W):=by
    rw[hW,hh];exact (((Kept.nil wr).alloc _).cons_of (by go_simp)).cons_of (by go_simp)
   have HW:=Lib.hid hW;have HH:=Lib.hid hh
   cases hrb:Dt.rightB dc y with
   | false=>
    have HRT:Hid (Calls Tryz.prog 113 #[.agg #[.int .i64 dc,.int .i64 y]] W fun e w'=>e = .returned (.bool false)∧Below W.heap.size W w'):=by have:=Dt.right_any dc y W;rwa [hrb]at this
    have HBAD:Hid (¬goodD l):=fun hg=>by have:=hg _ hmem;rw[hrb]at this;cases this
    have HB1:=Lib.hid (HBL.out.trans (hbel.mono HBL.out.size));clear hc hp hmem htk hW hh hbel hrb;go_wp2_with fail;rw[← HW.out];clear q0 q1;refine HRT.out.mono ?_;rintro e w2 ⟨rfl,hb2⟩;go_wp2;go_ret2;exact .inr ⟨HBAD.out,rfl,HB1.out.trans (hb2.mono HB1.out.size)⟩
   | true=>
    have HRT:Hid (Calls Tryz.prog 113 #[.agg #[.int .i64 dc,.int .i64 y]] W fun e w'=>e = .returned (.bool true)∧Below W.heap.size W w'):=by have:=Dt.right_any dc y W;rwa [hrb]at this
    have HGD2:Hid (goodD (l.take (k+1))):=fun x hx=>by
     rw[htk]at hx
     rcases List.mem_append.1 hx with hx | hx
     ·exact HGD.out x hx
     ·rw[List.mem_singleton.1 hx];exact hrb
    obtain⟨⟨hd0,hd4⟩,_⟩:=good_num (x:=(dc,y)) hrb;dsimp only at hd0 hd4;obtain⟨d,rfl⟩:∃ d:Nat,dc=(d:Int):=⟨dc.toNat,by omega⟩
    have hd4n:d<4:=by omega
    have HBE:=Lib.hid hbel;have HHS:=Lib.hid hh;clear hc hp hmem htk hW hh hbel hrb HGD;go_wp2_with fail;rw[← HW.out,← HH.out];clear q0 q1;refine HRT.out.mono ?_;rintro e W2 ⟨rfl,hb2⟩;have HK2:=Lib.hid (HK.out.later hb2);have HS1:=(((HS.out.later HBE.out).later hb2)).later ((Below.refl W2.heap.size W2).drew)
    have hnk:(s d).n≤k:=by rw[← HN.out d hd4n];exact Nat.le_trans (nums_len _ _) (by rw[List.length_take];exact Nat.min_le_left _ _)
    obtain⟨A',c',w',r1,r2,r3,r4,r5⟩:=HS1.push Tryz.underlying112 infoI rfl (by omega) (by omega) hd4n W2.heap.size rfl [.int .i64 y] rfl (by intro u hu;simp at hu;rcases hu with rfl;rfl) (by omega)
    have hne:(s d).val.ownBlock≠some h:=fun e=>by have:=(HS.out.lt hd4n e).2;have:=HHS.out;omega
    have hlt2:h<W2.drew.heap.size:=by
     have h1:h<W.heap.size:=World.block_lt_of_cell? W _ HK.out.c0;exact Nat.lt_of_lt_of_le h1 hb2.size
    have c0:=HK2.out.c0;have c1:=HK2.out.c1;have i0:w'.cell? ⟨h,0,none⟩=some (.int .i64 d):=(r2 h hne hlt2 0).trans c0;have i1:w'.cell? ⟨h,1,none⟩=some (.int .i64 y):=(r2 h hne hlt2 1).trans c1;have hl1:g<W2.heap.size:=HS1.free.1;have hl2:h<W2.heap.size:=hlt2
    have hgh:g<h:=by have:=HS.out.free.1;have:=HHS.out;omega
    have hgh2:h≠g:=by omega
    have hgh3:¬(g=h):=by omega
    have ig:w'.cell? ⟨g,d,none⟩=some (.slice (s d).A (s d).n (s d).c):=(r2 g (fun e=>by have:=(HS.out.lt hd4n e).1;omega) (HS1.free.1) d).trans (HS1.cell d hd4n);have cg:W2.cell? ⟨g,d,none⟩=some (.slice (s d).A (s d).n (s d).c):=HS1.cell d hd4n;have mg:=r3.2 d
    have HN2:Hid (∀ i:Nat,i<4→(nums (l.take (k+1)) i).length=(upd s d ⟨A',(s d).n+1,c'⟩ i).n):=fun i hi=>by
     rw[nums_take hkl HP.out]
     by_cases he:i=d
     ·subst he
      rw[upd_same,if_pos rfl,List.length_append,HN.out i hi];rfl
     ·rw[upd_other _ _ he,if_neg (by intro e;exact he (Int.ofNat.inj e.symm)),HN.out i hi]
    have HS2:Hid (Rows4 (w'.setCell ⟨g,d,none⟩ (.slice A' ((s d).n+1) c')) (g+1) 2 1 g (upd s d ⟨A',(s d).n+1,c'⟩) (fun i=>intsC (nums (l.take (k+1)) i))):=by
     have:=r5;rw[upd_nums hkl HP.out]at this;exact this
    have hb4:Below (g+1) wr w':=((HBE.out.trans (hb2.mono HBE.out.size)).mono HS.out.high).trans (((Below.refl _ _).drew).trans r4);have HB4:Hid (Below w.heap.size w (w'.setCell ⟨g,d,none⟩ (.slice A' ((s d).n+1) c'))):=(HBL.out.trans (hb4.mono (by rw[HG.out];omega))).setCell (p:=⟨g,d,none⟩) (by rw[HG.out];exact Nat.le_refl _) _;have Hrun:=Lib.hid r1;obtain⟨sA,sn,sc,hs⟩:∃ sA sn sc,s d=⟨sA,sn,sc⟩:=⟨_,_,_,rfl⟩;rw[hs]at Hrun cg ig HS2 HN2 HB4;dsimp only at Hrun cg ig HS2 HN2 HB4;clear r1 r2 r3 r4 r5 hb4 hne hlt2 HS1 hs HS HN HBL hb2 HK HK2 HBE HHS;go_wp2;refine wp_region_held_drew (S:=fun W=>W.cell? ⟨h,0,none⟩=some (.int .i64 d)∧W.cell? ⟨h,1,none⟩=some (.int .i64 y)) (by kernel_rfl) (by go_keep) (fun hHeld=>?_);refine Tk 0 21 ?_;refine Tk 1 22 ?_;refine Tk 2 23 ?_;refine Tk 3 24 ?_;refine Tk 4 25 ?_;refine Tk 6 27 ?_;refine Tk 7 28 ?_
    refine wpAnyH_ready (rs:=[5,8]) (by kernel_rfl) (by simp) ?_;refine AllReadyH.cons (o:=⟨some 26,_,_,_,_,_⟩) rfl (fun K hK=>?_) (AllReadyH.cons (o:=⟨some 29,_,_,_,_,_⟩) rfl (fun K hK=>?_) AllReadyH.nil)
    ·go_simp
     refine Th hK ?_ (fun hHeld2=>?_)
     ·exact hHeld
     clear hK K hHeld;have hHeld:=hHeld2;clear hHeld2;refine Tc 8 (fun K hK=>?_);go_simp;refine Th hK ?_ (fun hHeld2=>?_)
     ·(try dsimp only);go_keep
     clear hK K hHeld;have hHeld:=hHeld2;clear hHeld2;refine Tc 9 (fun K hK=>?_);refine upon_append _ _ _ rfl rfl rfl Hrun.out ?_;clear hHeld;refine Th hK ?_ (fun hHeld=>?_)
     ·exact⟨i0,i1⟩
     clear hK K;refine Tk 10 31 ?_;refine Tc 11 (fun K hK=>?_);go_simp;refine Th hK ?_ (fun hHeld2=>?_)
     ·(try dsimp only);go_keep
     clear hK K hHeld;have hHeld:=hHeld2;clear hHeld2;refine wpAnyH_done (by kernel_rfl) ?_ _;clear Hrun c0 c1 i0 i1 cg ig mg hHeld;go_wp2;go_roundw
     case rel=>exact⟨k+1,_,by omega,by go_num,HGD2.out,HS2.out,HN2.out,HB4.out⟩
     case measure=>simp[intOf];omega
    ·go_simp
     refine Th hK ?_ (fun hHeld2=>?_)
     ·(try dsimp only);go_keep
     clear hK K hHeld;have hHeld:=hHeld2;clear hHeld2;refine Tc 5 (fun K hK=>?_);go_simp;refine Th hK ?_ (fun hHeld2=>?_)
     ·exact hHeld
     clear hK K hHeld;have hHeld:=hHeld2;clear hHeld2;refine Tc 9 (fun K hK=>?_);refine upon_append _ _ _ rfl rfl rfl Hrun.out ?_;clear hHeld;refine Th hK ?_ (fun hHeld=>?_)
     ·exact⟨i0,i1⟩
     clear hK K;refine Tk 10 31 ?_;refine Tc 11 (fun K hK=>?_);go_simp;refine Th hK ?_ (fun hHeld2=>?_)
     ·(try dsimp only);go_keep
     clear hK K hHeld;have hHeld:=hHeld2;clear hHeld2;refine wpAnyH_done (by kernel_rfl) ?_ _;clear Hrun c0 c1 i0 i1 cg ig mg hHeld;go_wp2;go_roundw
     case rel=>exact⟨k+1,_,by omega,by go_num,HGD2.out,HS2.out,HN2.out,HB4.out⟩
     case measure=>simp[intOf];omega
  ·obtain rfl:k=n:=by omega
   have hall:l.take k=l:=List.take_of_length_le (by rw[HL.out];omega);rw[hall]at HS HN HGD;have p0:=HS.out.cell 0 (by omega);have p1:=HS.out.cell 1 (by omega);have p2:=HS.out.cell 2 (by omega);have p3:=HS.out.cell 3 (by omega);obtain⟨W2,hW2⟩:∃ W,W=wr.alloc (.cells #[.slice none 0 0,.slice none 0 0,.slice none 0 0,.slice none 0 0] 143):=⟨_,rfl⟩;obtain⟨p,hp⟩:∃ p,p=wr.heap.size:=⟨_,rfl⟩
   have hb2:Below wr.heap.size wr W2:=by rw[hW2];exact Dt.box_below _ _ _
   have HC2:Hid (Cells4 W2 p (fun _=>.slice none 0 0)):=by rw[hW2,hp];exact Cells4.new wr _ _ _ _ _ _ rfl
   have HSR:Hid (∀ d:Nat,d<4→(nums l d).length=(s d).n∧Rd W2 p 1 (s d).A (s d).n (s d).c (intsC (nums l d))):=fun d hd=>⟨HN.out d hd,by rw[hp];exact (HS.out.rd hd).below hb2⟩;have HB2:=Lib.hid (HBL.out.trans (hb2.mono HBL.out.size));have hgl:g<wr.heap.size:=HS.out.free.1;have HW2:=Lib.hid hW2;have HPp:=Lib.hid hp
   have hpw:w.heap.size≤p:=by rw[hp];exact HBL.out.size
   clear hall HR HS HN HBL hb2 hW2 hp;go_wp2;rw[← HPp.out,← HW2.out];clear p0 p1 p2 p3 hgl
   go_loopw [34] (fun i wr=>∃ (d:Nat) (u:Nat→SV) (r:Nat→List (Int×Int)),d≤4∧i = .int .i64 d∧Hid (Cells4 wr p (fun j=>.slice (u j).A (u j).n (u j).c))∧Hid (∀ j:Nat,j<d→(r j).length=(u j).n∧Rb wr (p+1) 2 (u j).A (u j).n (u j).c (runsC (r j))∧SetIs (nums l j) (r j)∧(r j).length≤k)∧Hid (Below p W2 wr)) (fun i _=>4-(intOf i).toNat)
   case atStart=>exact⟨0,fun _=>sv0,fun _=>[],by omega,rfl,HC2.out,fun j hj=>by omega,Below.refl _ _⟩
   case round=>
    clear HC2;obtain⟨d,u,r,hd,rfl,HU,HRR,HBL⟩:=hrel
    by_cases hd4:d<4
    ·have hix:=index_nums s d hd4
     have hdi:(d:Int)<4:=by omega
     have hps:p<wr.heap.size:=HU.out.free.1;have hsd:=HSR.out d hd4
     have HNL:Hid ((nums l d).length≤k):=by unfold Hid;have:=nums_len l d;have:=HL.out;omega
     have HCO:Hid (Calls Tryz.prog 117 #[.slice (s d).A (s d).n (s d).c] wr fun e w'=>∃ x A q c,e = .returned (.tuple #[.slice A q c,.int .i64 0])∧Hid (x.length=q∧Rb w' (p+1) 2 A q c (runsC x)∧SetIs (nums l d) x∧x.length≤k)∧Below wr.heap.size wr w'):=by
      refine (of_any (nums l d) (s d).n (s d).A (s d).c wr hsd.1 (by have:=HNL.out;have:=hsd.1;omega) ((hsd.2.below HBL.out).more (by omega))).mono ?_;rintro e w2 (⟨_,x,A,c,rfl,hs,hq,ho,hb⟩ | ⟨⟨x,hx,hx2⟩,_⟩)
      ·exact⟨x,A,x.length,c,rfl,⟨rfl,ho.rb.mono (by omega),hs,by have:=HNL.out;omega⟩,hb⟩
      ·exfalso
       have:=(good_num (HGD.out _ (nums_mem.1 hx))).2;dsimp only at this;omega
     clear hsd;go_wp2_with (go_at_call 117;refine HCO.out.mono ?_;rintro e w3 ⟨x,A3,q3,c3,rfl,HX3,hb3⟩;have HU3:=HU.out.later hb3;have k0:=HU3.cell d hd4;have m0:=HU3.free.2 d)
     have HC4:Hid (Cells4 (w3.setCell ⟨p,d,none⟩ (.slice A3 q3 c3)) p (fun j=>.slice (upd u d ⟨A3,q3,c3⟩ j).A (upd u d ⟨A3,q3,c3⟩ j).n (upd u d ⟨A3,q3,c3⟩ j).c)):=by
      refine (HU3.set hd4 _).congr fun j hj=>?_
      by_cases he:j=d
      ·subst he;rw[upd_same,upd_same]
      ·rw[upd_other _ _ he,upd_other _ _ he]
     have HR4:Hid (∀ j:Nat,j<d+1→(upd r d x j).length=(upd u d ⟨A3,q3,c3⟩ j).n∧Rb (w3.setCell ⟨p,d,none⟩ (.slice A3 q3 c3)) (p+1) 2 (upd u d ⟨A3,q3,c3⟩ j).A (upd u d ⟨A3,q3,c3⟩ j).n (upd u d ⟨A3,q3,c3⟩ j).c (runsC (upd r d x j))∧SetIs (nums l j) (upd r d x j)∧(upd r d x j).length≤k):=fun j hj=>by
      by_cases he:j=d
      ·subst he
       rw[upd_same,upd_same];exact⟨HX3.out.1,rb_set HX3.out.2.1 (a:=⟨p,j,none⟩) (by show p<p+1;omega) _,HX3.out.2.2⟩
      ·rw[upd_other _ _ he,upd_other _ _ he]
       obtain⟨x1,x2,x3⟩:=HRR.out j (by omega);exact⟨x1,rb_set (x2.later hb3) (a:=⟨p,d,none⟩) (by show p<p+1;omega) _,x3⟩
     have HB4:Hid (Below p W2 (w3.setCell ⟨p,d,none⟩ (.slice A3 q3 c3))):=(HBL.out.trans (hb3.mono (by omega))).setCell (p:=⟨p,d,none⟩) (Nat.le_refl _) _;clear k0 m0 HU3 hb3;go_roundw
     case rel=>exact⟨d+1,upd u d ⟨A3,q3,c3⟩,upd r d x,by omega,by go_num,HC4.out,HR4.out,HB4.out⟩
     case measure=>simp[intOf];omega
    ·obtain rfl:d=4:=by omega
     have HC:=Lib.hid (context_any u r wr (fun j hj=>⟨(HRR.out j hj).1,(HRR.out j hj).2.1.rd⟩) (fun j hj=>by have:=(HRR.out j hj).2.2.2;omega));have k0:=HU.out.cell 0 (by omega);have k1:=HU.out.cell 1 (by omega);have k2:=HU.out.cell 2 (by omega);have k3:=HU.out.cell 3 (by omega);have HPC:Hid (OfC l (pre r 4)):=of_pre fun j hj=>(HRR.out j hj).2.2.1;have HLN:Hid ((pre r 4).length≤4*k):=pre_len (M:=k) (fun j hj=>(HRR.out j hj).2.2.2) 4 (by omega);have HB5:Hid (Below w.heap.size w wr):=HB2.out.trans (HBL.out.mono (by omega));clear HRR HBL HSR;go_wp2_with (go_at_call 118;refine HC.out.mono ?_;rintro e w3 ⟨A3,c3,rfl,ho3,hb3⟩);go_ret2;exact .inl ⟨HGD.out,pre r 4,(pre r 4).length,A3,c3,wr.heap.size,rfl,rfl,HPC.out,HLN.out,⟨HB5.out.size,ho3⟩,HB5.out.trans (hb3.mono HB5.out.size)⟩
theorem ofC_any (l:List (Int×Int)) (n:Nat) (A:Option Addr) (c:Nat) (w:World) (hl:l.length=n) (hn:n≤1000) (hr:Rd w w.heap.size 2 A n c (l.flatMap dotC)) :
  Calls Tryz.prog 96 #[.slice A n c] w (OfIsC l n w):=(ofC_own l n A c w hl hn hr).mono fun e w' h=>by
 rcases h with ⟨h1,u,q,A2,c2,b,h2,h3,h4,h5,h6,h7⟩ | h
 ·exact .inl ⟨h1,u,q,A2,c2,h2,h3,h4,h5,Lib.hid h6.out.2.rd,h7⟩
 ·exact .inr h
end Cx
end Go.Proofs.YtjpcechcefhcfaaGreat
