/- Trees: all dots; the program's. -/
import Derived.Test.YtjpcechcefhcfaaGreatTreeRight
import Derived.Test.YtjpcechcefhcfaaGreatCtxOf
set_option maxRecDepth 100000
set_option maxHeartbeats 4000000
namespace Go.Proofs.YtjpcechcefhcfaaGreat
open Go.ChangeShapes Go.WideShapes Go.ChangeAt Go.RowKit
namespace Tr
open Sp Rw
structure Gr (w w':World) (v v':Value):Prop where
 gb:w.grownBy w' v.ownBlock
 own:v'.ownBlock=v.ownBlock∨∃ k,v'.ownBlock=some k∧w.heap.size≤k
namespace Gr
variable {w w1 w2:World} {v v1 v2:Value}
theorem refl (w:World) (v:Value):Gr w w v v:=⟨⟨rfl,rfl,rfl,Nat.le_refl _,fun _ _ _=>rfl⟩,.inl rfl⟩
theorem size (h:Gr w w1 v v1):w.heap.size≤w1.heap.size:=h.gb.size
theorem block (h:Gr w w1 v v1) {b:Nat} (hb:b<w.heap.size) (hv:v.ownBlock≠some b):w1.heap[b]?=w.heap[b]?:=h.gb.block b hb fun e=>hv e.symm
theorem apart (h:Gr w w1 v v1) {b:Nat} (hb:b<w.heap.size) (hv:v.ownBlock≠some b):v1.ownBlock≠some b:=fun e=>by
 rcases h.own with h1 | ⟨k,h1,h2⟩
 ·exact hv (h1.symm.trans e)
 ·rw[h1]at e
  injection e with e;omega
theorem trans (h:Gr w w1 v v1) (h2:Gr w1 w2 v1 v2):Gr w w2 v v2:=by
 refine⟨⟨h2.gb.os.trans h.gb.os,h2.gb.tape.trans h.gb.tape,h2.gb.output.trans h.gb.output,Nat.le_trans h.size h2.size,fun b hb hv=>?_⟩,?_⟩
 ·have hv':v.ownBlock≠some b:=fun e=>hv e.symm
  exact (h2.block (Nat.lt_of_lt_of_le hb h.size) (h.apart hb hv')).trans (h.block hb hv')
 ·rcases h2.own with h3 | ⟨k,h3,h4⟩
  ·rcases h.own with h5 | ⟨k,h5,h6⟩
   ·exact .inl (h3.trans h5)
   ·exact .inr ⟨k,h3.trans h5,h6⟩
  ·exact .inr ⟨k,h3,Nat.le_trans h.size h4⟩
theorem of_below (h:Below w.heap.size w w1):Gr w w1 v v:=⟨⟨h.os,h.tape,h.output,h.size,fun b hb _=>h.block b hb⟩,.inl rfl⟩
theorem cell (h:Gr w w1 v v1) {p:Addr} (hb:p.block<w.heap.size) (hv:v.ownBlock≠some p.block):w1.cell? p=w.cell? p:=World.cell?_of_block (h.block hb hv)
theorem below (h:Gr w w1 v v1) {lo:Nat} (hlo:lo≤w.heap.size) (hv:∀ k,v.ownBlock=some k→lo≤k):Below lo w w1:=(Below.refl lo w).grown h.gb hlo fun k hk=>hv k hk
end Gr
theorem infoD:(Tryz.prog.info? 47).map (fun i=>(i.zero,i.size,i.bytes))=some (some (.agg #[.int .i64 0,.int .i64 0]),2,16):=by kernel_rfl
theorem dotC_one (d:Int×Int):∀ u∈Cx.dotC d,u.oneCell'=true:=by
 intro u hu;simp[Cx.dotC]at hu
 rcases hu with rfl | rfl <;> rfl
theorem push_dot (W:World) (lo q:Nat) (hq:W.heap.size=q) {A:Option Addr} {n c:Nat} {l:List (Int×Int)} (h:Own W lo 47 2 A n c (l.flatMap Cx.dotC)) (hlo:lo≤W.heap.size) (x:Int×Int) (hn:n≤800000) :
  ∃ A' c' w',(Builtin.append_ #[82,82] 82 #[.slice A n c,.slice (some ⟨q,0,none⟩) 1 1]).run Tryz.prog (W.alloc (.cells #[.int .i64 x.1,.int .i64 x.2] 47)) = .ok (.slice A' (n+1) c') w'∧Own w' lo 47 2 A' (n+1) c' ((l++[x]).flatMap Cx.dotC)∧Gr W w' (.slice A n c) (.slice A' (n+1) c'):=by
 subst hq;have hal:Below W.heap.size W (W.alloc (.cells #[.int .i64 x.1,.int .i64 x.2] 47)):=Dt.box_below _ _ _;obtain⟨i0,hi0,hz0,hz1,hz2⟩:=info_of infoD
 have hr:Rd (W.alloc (.cells #[.int .i64 x.1,.int .i64 x.2] 47)) (W.heap.size+1) 2 (some ⟨W.heap.size,0,none⟩) 1 1 ([x].flatMap Cx.dotC):=
  ⟨rfl,Nat.le_refl _,fun u hu=>dotC_one x u (by simpa using hu),fun _=>⟨_,_,rfl,by omega,fun j u hu=>by
   rw[Nat.zero_add,cell_of_row _ _ j _ _ (0,0) (heap_alloc_new _ _)]
   simpa [Cx.dotC] using hu⟩⟩
 obtain⟨v',w',r1,r2,r3,r4⟩:=run_app (P:=Tryz.prog) _ lo 82 82 47 i0 _ 2 16 Tryz.underlying82 hi0 hz0 hz1 hz2 rfl (by omega) (own_later h hal).row hr (by omega) (by omega) (by simp;omega)
 have e:l.flatMap Cx.dotC++[x].flatMap Cx.dotC=(l++[x]).flatMap Cx.dotC:=by simp
 rw[e]at r2
 obtain⟨A',c',rfl,ho⟩:=Own.of_row r2 (fun u hu=>by
  obtain⟨y,_,hu⟩:=List.mem_flatMap.1 hu
  exact dotC_one y u hu)
 refine⟨A',c',w',r1,ho,(Gr.of_below hal).trans ⟨r3,?_⟩⟩
 rcases r4 with r4 | r4
 ·exact .inl r4
 ·exact .inr ⟨_,r4,Nat.le_refl _⟩
def dotE (e:E):Int×Int:=(e.a,e.n)
def dl (t:T):List (Int×Int):=(leaves t).map fun x=>dotE x.2
def kidsD (ks:List (ByteArray×T)) (k:Nat):List (Int×Int):=(ks.take k).flatMap fun kd=>dl kd.2
theorem dl_len (t:T):(dl t).length=(leaves t).length:=by unfold dl;rw[List.length_map]
theorem kidsD_succ {ks:List (ByteArray×T)} {k:Nat} (h:k<ks.length):kidsD ks (k+1)=kidsD ks k++dl (ks[k]).2:=by
 unfold kidsD;rw[List.take_succ_eq_append_getElem h,List.flatMap_append,List.flatMap_cons,List.flatMap_nil,List.append_nil]
theorem dl_mk (es:List E) (ks:List (ByteArray×T)) {k:Nat} (h:ks.length=k):dl (.mk es ks)=es.map dotE++kidsD ks k:=by
 unfold dl kidsD;rw[List.take_of_length_le (by omega),leaves_mk,List.map_append,List.map_map]
 congr 1
 unfold below;rw[List.map_flatMap]
 congr 1
 funext kd
 rw[List.map_map];rfl
theorem right_ents:∀ {d:Nat} {t:T},RightT d t→∀ x∈leaves t,RightE x.2
 | d+1,.mk es ks,h,x,hx=>by
  rw[leaves_mk]at hx
  rcases List.mem_append.1 hx with hx | hx
  ·obtain⟨e,he,rfl⟩:=List.mem_map.1 hx
   exact h.1 e he
  ·obtain⟨k,hk,hx⟩:=List.mem_flatMap.1 hx
   obtain⟨y,hy,rfl⟩:=List.mem_map.1 hx;exact right_ents (h.2.2.2 k hk).2.2 y hy
theorem good_dl {d:Nat} {t:T} (h:RightT d t):Cx.goodD (dl t):=fun x hx=>by
 obtain⟨y,hy,rfl⟩:=List.mem_map.1 hx;exact (right_ents h y hy).1
theorem dots_any:∀ (t:T) (Ae Ak:Option Addr) (ne nk ce ck:Nat) (lo:Nat) (A:Option Addr) (n c:Nat) (l:List (Int×Int)) (w:World),n+nodes t≤100000→RdT w lo t ⟨Ae,ne,ce⟩ ⟨Ak,nk,ck⟩→lo≤w.heap.size→Own w lo 47 2 A n c (l.flatMap Cx.dotC) →
  Calls Tryz.prog 97 #[.slice A n c,.agg #[.slice Ae ne ce,.slice Ak nk ck]] w fun e w'=>∃ A' c',e = .returned (.slice A' (n+(leaves t).length) c')∧Own w' lo 47 2 A' (n+(leaves t).length) c' ((l++dl t).flatMap Cx.dotC)∧Gr w w' (.slice A n c) (.slice A' (n+(leaves t).length) c'):=by
 intro t
 induction t using T.ind with
 | h es ks ih=>
  intro Ae Ak ne nk ce ck lo A n c l w hn hr hlo how;obtain⟨hle,hlk⟩:=rd_lens hr;have HR:=Lib.hid hr;have HLE:=Lib.hid hle;have HLK:=Lib.hid hlk;clear hle hlk hr;have IH:=Lib.hid ih;have HN:=Lib.hid hn;have HLO:=Lib.hid hlo;have HOW:=Lib.hid how
  have hne5:ne≤100000:=by have:=nodes_es es ks;have:=HLE.out;omega
  have hnk5:nk≤100000:=by have:=nodes_es es ks;have:=HLK.out;omega
  have hn5:n≤100000:=by omega
  have hlw:∀ k,(Value.slice A n c).ownBlock=some k→lo≤k∧k<w.heap.size:=fun k e=>how.row.lt k e;have HLW:=Lib.hid hlw
  have HM:Hid ((leaves (.mk es ks)).length=ne+ksum (fun k=>(leaves k.2).length) ks nk):=by unfold Hid;rw[leaves_len,ksum_all _ HLK.out,HLE.out]
  have HM2:Hid (n+(ne+ksum (fun k=>(leaves k.2).length) ks nk)≤100000):=by have:=leaves_nodes (.mk es ks);have:=HM.out;unfold Hid;omega
  clear ih hn hlo how hlw;obtain⟨g,hg⟩:∃ g,g=w.heap.size:=⟨_,rfl⟩;have HK:=Lib.hid (tree_box w Ae Ak ne nk ce ck);rw[← hg]at HK;obtain⟨W0,hW0⟩:∃ W,W=w.alloc (.cells #[.slice Ae ne ce,.slice Ak nk ck] 25):=⟨_,rfl⟩;rw[← hW0]at HK;have HG:=Lib.hid hg;have HW0:=Lib.hid hW0;have k0:=HK.out.c0;have k1:=HK.out.c1;clear hg hW0
  have HOWN:Hid (Own W0 lo 47 2 A n c (l.flatMap Cx.dotC)):=by unfold Hid;rw[HW0.out];exact own_later HOW.out (Dt.box_below _ _ _)
  have HWS:Hid (W0.heap.size=g+1∧w.heap.size=g):=⟨by rw[HW0.out,HG.out];simp,HG.out.symm⟩
  have HNG:Hid ((Value.slice A n c).ownBlock≠some g):=fun e=>by have:=(HLW.out g e).2;have:=HWS.out.2;omega
  have HGR0:Hid (Gr w W0 (.slice A n c) (.slice A n c)):=by unfold Hid;rw[HW0.out];exact Gr.of_below (Dt.box_below _ _ _)
  go_enter Tryz.func97,Tryz.ntmps97;go_wp2_with fail;rw[← HG.out,← HW0.out];go_wp2_with fail
  go_loopw [0,12] (fun v i wr=>∃ (k:Nat) (Ax:Option Addr) (cx:Nat),k≤ne∧i = .int .i64 k∧v = .slice Ax (n+k) cx∧Hid (Own wr lo 47 2 Ax (n+k) cx ((l++(es.take k).map dotE).flatMap Cx.dotC))∧Hid (Gr W0 wr (.slice A n c) (.slice Ax (n+k) cx))) (fun _ i _=>ne-(intOf i).toNat)
  case atStart=>exact⟨0,A,c,by omega,rfl,rfl,by have:=HOWN.out;simpa [Hid] using this,Gr.refl _ _⟩
  case round=>
   obtain⟨k,Ax,cx,hk,rfl,rfl,HO,HGR⟩:=hrel;clear k0 k1
   have hg0:g<W0.heap.size:=by have:=HWS.out.1;omega
   have k0:=(HGR.out.cell (p:=⟨g,0,none⟩) hg0 HNG.out).trans HK.out.c0;have k1:=(HGR.out.cell (p:=⟨g,1,none⟩) hg0 HNG.out).trans HK.out.c1;have hgr:g<wr.heap.size:=Nat.lt_of_lt_of_le hg0 HGR.out.size
   by_cases hlt:k<ne
   ·have hkl:k<es.length:=by rw[HLE.out];exact hlt
    obtain⟨b,o,rfl,hb,hc⟩:=rd_ent HR.out (by omega);obtain⟨c0,c1,c2,c3⟩:=hc k hkl
    have hbg:b<W0.heap.size:=by have:=HLO.out;have:=HWS.out.1;have:=HWS.out.2;omega
    have hnb:(Value.slice A n c).ownBlock≠some b:=fun e=>by have:=(HLW.out b e).1;omega
    have hbw:b<w.heap.size:=by have:=HLO.out;omega
    have c0:=(HGR.out.cell (p:=⟨b,o+k*4,none⟩) hbg hnb).trans ((HK.out.below.cell (p:=⟨b,o+k*4,none⟩) hbw).trans c0);have c1:=(HGR.out.cell (p:=⟨b,o+k*4+1,none⟩) hbg hnb).trans ((HK.out.below.cell (p:=⟨b,o+k*4+1,none⟩) hbw).trans c1);have c2:=(HGR.out.cell (p:=⟨b,o+k*4+2,none⟩) hbg hnb).trans ((HK.out.below.cell (p:=⟨b,o+k*4+2,none⟩) hbw).trans c2);have c3:=(HGR.out.cell (p:=⟨b,o+k*4+3,none⟩) hbg hnb).trans ((HK.out.below.cell (p:=⟨b,o+k*4+3,none⟩) hbw).trans c3)
    have HSUC:Hid ((es.take (k+1)).map dotE=(es.take k).map dotE++[((es[k]).a,(es[k]).n)]):=by unfold Hid;rw[List.take_succ_eq_append_getElem hkl,List.map_append];rfl
    obtain⟨⟨ea,en,et,ev⟩,hx⟩:∃ x,x=es[k]:=⟨_,rfl⟩;rw[← hx]at c0 c1 c2 c3 HSUC;dsimp only at c0 c1 c2 c3 HSUC;obtain⟨W1,hW1⟩:∃ W,W=wr.alloc (.cells #[.int .i64 ea,.int .i64 en,.string et,.int .i64 ev] 61):=⟨_,rfl⟩
    have hb1:Below wr.heap.size wr W1:=by rw[hW1];exact Dt.box_below _ _ _
    have hos:=HO.out;obtain⟨A6,c6,w6,r1,r2,r3⟩:=push_dot W1 lo (wr.heap.size+1) (by rw[hW1];simp) (own_later HO.out hb1) (by have h1:=HGR.out.size;have h2:=hb1.size;have h3:=HLO.out;have h4:=HWS.out.1;have h5:=HWS.out.2;omega) (ea,en) (by omega)
    have HO6:Hid (Own w6 lo 47 2 A6 (n+(k+1)) c6 ((l++(es.take (k+1)).map dotE).flatMap Cx.dotC)):=by unfold Hid;rw[HSUC.out,← List.append_assoc];exact r2
    have HGR6:Hid (Gr W0 w6 (.slice A n c) (.slice A6 (n+(k+1)) c6)):=HGR.out.trans ((Gr.of_below hb1).trans r3);have Hrun:=Lib.hid r1;have HW1:=Lib.hid hW1;clear hc hx hW1 hb1 r1 r2 r3 hos HSUC hnb hbg;go_wp2_with (at_builtin;rw[← HW1.out];refine Lib.wpList_append_run _ rfl _ _ _ _ rfl _ _ rfl rfl _ _ Hrun.out ?_);go_roundw
    case rel=>exact⟨k+1,A6,c6,by omega,by go_num,rfl,HO6.out,HGR6.out⟩
    case measure=>simp[intOf];omega
   ·obtain rfl:k=ne:=by omega
    have HO1:Hid (Own wr lo 47 2 Ax (n+k) cx ((l++es.map dotE).flatMap Cx.dotC)):=by have h1:=HO.out;rw[List.take_of_length_le (by rw[HLE.out];omega)]at h1;exact h1
    have HGR1:=Lib.hid HGR.out;go_wp2_with fail
    go_loopw [0,25] (fun v i wr=>∃ (j:Nat) (Ay:Option Addr) (cy m:Nat),j≤nk∧i = .int .i64 j∧v = .slice Ay m cy∧Hid (m=n+(k+ksum (fun k=>(leaves k.2).length) ks j))∧Hid (Own wr lo 47 2 Ay m cy ((l++es.map dotE++kidsD ks j).flatMap Cx.dotC))∧Hid (Gr W0 wr (.slice A n c) (.slice Ay m cy))) (fun _ i _=>nk-(intOf i).toNat)
    case atStart=>exact⟨0,Ax,cx,n+k,by omega,rfl,rfl,by rw[ksum_zero];rfl,by have h1:=HO1.out;simpa [Hid,kidsD] using h1,HGR1.out⟩
    case round=>
     obtain⟨j,Ay,cy,m,hj,rfl,rfl,HMM,HO,HGR⟩:=hrel;clear k0 k1;have k0:=(HGR.out.cell (p:=⟨g,0,none⟩) hg0 HNG.out).trans HK.out.c0;have k1:=(HGR.out.cell (p:=⟨g,1,none⟩) hg0 HNG.out).trans HK.out.c1;have hgr:g<wr.heap.size:=Nat.lt_of_lt_of_le hg0 HGR.out.size
     by_cases hlt:j<nk
     ·have hkl:j<ks.length:=by rw[HLK.out];exact hlt
      obtain⟨b,o,rfl,hb,hc⟩:=rd_kid HR.out (by omega);obtain⟨⟨Ae',ne',ce'⟩,⟨Ak',nk',ck'⟩,c0,c1,c2,hkid⟩:=hc j hkl;dsimp only at c0 c1 c2
      have hbg:b<W0.heap.size:=by have:=HLO.out;have:=HWS.out.1;have:=HWS.out.2;omega
      have hnb:(Value.slice A n c).ownBlock≠some b:=fun e=>by have:=(HLW.out b e).1;omega
      have hbw:b<w.heap.size:=by have:=HLO.out;omega
      have c0:=(HGR.out.cell (p:=⟨b,o+j*3,none⟩) hbg hnb).trans ((HK.out.below.cell (p:=⟨b,o+j*3,none⟩) hbw).trans c0);have c1:=(HGR.out.cell (p:=⟨b,o+j*3+1,none⟩) hbg hnb).trans ((HK.out.below.cell (p:=⟨b,o+j*3+1,none⟩) hbw).trans c1);have c2:=(HGR.out.cell (p:=⟨b,o+j*3+2,none⟩) hbg hnb).trans ((HK.out.below.cell (p:=⟨b,o+j*3+2,none⟩) hbw).trans c2);obtain⟨key,hkey⟩:∃ key,key=(ks[j]).1:=⟨_,rfl⟩;rw[← hkey]at c0;obtain⟨W1,hW1⟩:∃ W,W=wr.alloc (.cells #[.string key,.slice Ae' ne' ce',.slice Ak' nk' ck'] 73):=⟨_,rfl⟩
      have hb1:Below wr.heap.size wr W1:=by rw[hW1];exact Dt.box_below _ _ _
      have hbel:Below lo w W1:=by
       have h0:Below lo w wr:=(HGR0.out.trans HGR.out).below HLO.out (fun k hk=>(HLW.out k hk).1);exact h0.trans (hb1.mono (by have h1:=HGR.out.size;have h2:=HLO.out;have h4:=HWS.out.1;have h5:=HWS.out.2;omega))
      have hs1:=ksum_succ (fun k=>(leaves k.2).length) hkl;have hs2:=Nat.le_trans (ksum_le (fun k=>(leaves k.2).length) ks (j+1)) (Nat.le_of_eq (ksum_all _ HLK.out).symm);have hmm:=HMM.out;have hm2:=HM2.out;have hkn:=nodes_kid (es:=es) (List.getElem_mem hkl)
      have hsn:m+nodes (ks[j]).2≤100000:=by
       have h1:ksum (fun k=>(leaves k.2).length) ks j≤ksum (fun k=>nodes k.2) ks j:=by
        unfold ksum;exact sum_mono fun a _=>leaves_nodes a.2
       have h2:=ksum_succ (fun k=>nodes k.2) hkl;have h3:=Nat.le_trans (ksum_le (fun k=>nodes k.2) ks (j+1)) (Nat.le_of_eq rfl);have h4:=HN.out;rw[nodes_mk]at h4;have h5:=HLE.out;omega
      have hcall:=IH.out _ (List.getElem_mem hkl) Ae' Ak' ne' nk' ce' ck' lo Ay m cy (l++es.map dotE++kidsD ks j) W1 hsn (RdT.below hkid hbel) (by have h1:=HGR.out.size;have h2:=hb1.size;have h3:=HLO.out;have h4:=HWS.out.1;have h5:=HWS.out.2;omega) (own_later HO.out hb1)
      have HMM2:Hid (m+(leaves (ks[j]).2).length=n+(k+ksum (fun k=>(leaves k.2).length) ks (j+1))):=by unfold Hid;omega
      have HKD:=Lib.hid (kidsD_succ hkl);have HC:=Lib.hid hcall;have HB1:=Lib.hid hb1;have HW1:=Lib.hid hW1;clear hc hkid hkey hW1 hb1 hbel hs1 hs2 hmm hm2 hkn hsn hcall hnb hbg;go_wp2_with fail;rw[← HW1.out];refine HC.out.mono ?_;rintro e w2 ⟨A7,c7,rfl,r2,r3⟩
      have HO7:Hid (Own w2 lo 47 2 A7 (m+(leaves (ks[j]).2).length) c7 ((l++es.map dotE++kidsD ks (j+1)).flatMap Cx.dotC)):=by unfold Hid;rw[HKD.out,← List.append_assoc];exact r2
      have HGR7:Hid (Gr W0 w2 (.slice A n c) (.slice A7 (m+(leaves (ks[j]).2).length) c7)):=HGR.out.trans ((Gr.of_below HB1.out).trans r3);clear r2 r3;go_wp2_with fail;go_roundw
      case rel=>exact⟨j+1,A7,c7,_,by omega,by go_num,rfl,HMM2.out,HO7.out,HGR7.out⟩
      case measure=>simp[intOf];omega
     ·obtain rfl:j=nk:=by omega
      have hmm:m=n+(leaves (.mk es ks)).length:=by rw[HM.out];exact HMM.out
      subst hmm
      have HO9:Hid (Own wr lo 47 2 Ay (n+(leaves (.mk es ks)).length) cy ((l++dl (.mk es ks)).flatMap Cx.dotC)):=by unfold Hid;rw[dl_mk es ks HLK.out,← List.append_assoc];exact HO.out
      have HGR9:=Lib.hid (HGR0.out.trans HGR.out);go_wp2_with fail;go_ret;exact⟨Ay,cy,rfl,HO9.out,HGR9.out⟩
theorem dotsT_bad (t:T) (Ae Ak:Option Addr) (ne nk ce ck:Nat) (w:World) (hz:rightB 5 t=false) (hl:LenT reachBytes t) (hr:RdT w w.heap.size t ⟨Ae,ne,ce⟩ ⟨Ak,nk,ck⟩) :
  Calls Tryz.prog 65 #[.agg #[.slice Ae ne ce,.slice Ak nk ck]] w fun e w'=>e = .returned (.tuple #[.slice none 0 0,.int .i64 1])∧Below w.heap.size w w':=by
 have HR:=Lib.hid hr;have HL:=Lib.hid hl;have HZ:=Lib.hid hz;obtain⟨g,hg⟩:∃ g,g=w.heap.size:=⟨_,rfl⟩;have HK:=Lib.hid (tree_box w Ae Ak ne nk ce ck);rw[← hg]at HK;obtain⟨W0,hW0⟩:∃ W,W=w.alloc (.cells #[.slice Ae ne ce,.slice Ak nk ck] 25):=⟨_,rfl⟩;rw[← hW0]at HK;have HG:=Lib.hid hg;have HW0:=Lib.hid hW0;have k0:=HK.out.c0;have k1:=HK.out.c1;clear hg hW0;clear hr hl hz;go_enter Tryz.func65,Tryz.ntmps65;go_wp2_with fail;rw[← HG.out,← HW0.out];refine (rightT_any t Ae Ak ne nk ce ck W0 HL.out (RdT.more HK.out.below.size _ (RdT.below HR.out HK.out.below))).mono ?_;rw[HZ.out];rintro e w1 ⟨rfl,hb1⟩;have HK1:=Lib.hid (HK.out.later hb1);clear k0 k1 hb1;have k0:=HK1.out.c0;have k1:=HK1.out.c1;go_wp2;go_ret2;exact⟨rfl,HK1.out.below⟩
theorem dotsT_any (t:T) (Ae Ak:Option Addr) (ne nk ce ck:Nat) (w:World) (hz:rightB 5 t=true) (hl:LenT reachBytes t) (hn:nodes t≤1000) (hr:RdT w w.heap.size t ⟨Ae,ne,ce⟩ ⟨Ak,nk,ck⟩) :
  Calls Tryz.prog 65 #[.agg #[.slice Ae ne ce,.slice Ak nk ck]] w fun e w'=>∃ u q A c,e = .returned (.tuple #[.slice A q c,.int .i64 0])∧Hid (u.length=q)∧Hid (Cx.OfC (dl t) u)∧q≤4*nodes t∧Hid (Rd w' w'.heap.size 3 A q c (spsC u))∧Below w.heap.size w w':=by
 have HN:=Lib.hid hn;clear hn;have HR:=Lib.hid hr;have HL:=Lib.hid hl;have HZ:=Lib.hid hz;obtain⟨g,hg⟩:∃ g,g=w.heap.size:=⟨_,rfl⟩;have HK:=Lib.hid (tree_box w Ae Ak ne nk ce ck);rw[← hg]at HK;obtain⟨W0,hW0⟩:∃ W,W=w.alloc (.cells #[.slice Ae ne ce,.slice Ak nk ck] 25):=⟨_,rfl⟩;rw[← hW0]at HK;have HG:=Lib.hid hg;have HW0:=Lib.hid hW0;have k0:=HK.out.c0;have k1:=HK.out.c1;clear hg hW0;clear hr hl hz;go_enter Tryz.func65,Tryz.ntmps65;go_wp2_with fail;rw[← HG.out,← HW0.out];refine (rightT_any t Ae Ak ne nk ce ck W0 HL.out (RdT.more HK.out.below.size _ (RdT.below HR.out HK.out.below))).mono ?_;rw[HZ.out];rintro e w1 ⟨rfl,hb1⟩;have HK1:=Lib.hid (HK.out.later hb1);clear k0 k1 hb1;have k0:=HK1.out.c0;have k1:=HK1.out.c1;have HD:=Lib.hid (dots_any t Ae Ak ne nk ce ck w1.heap.size none 0 0 [] w1 (by have:=HN.out;omega) (RdT.more HK1.out.below.size _ (RdT.below HR.out HK1.out.below)) (Nat.le_refl _) (by exact⟨World.ownsRow_nil _ _ _ _,by simp⟩))
 go_wp2_with fail;refine HD.out.mono ?_;rintro e w2 ⟨A2,c2,rfl,ho,hg⟩;rw[Nat.zero_add]at ho hg ⊢;have hb2:Below w1.heap.size w1 w2:=hg.below (Nat.le_refl _) (fun k hk=>by simp[Value.ownBlock]at hk);have HK2:=Lib.hid (HK1.out.later hb2);have hm:(leaves t).length≤1000:=Nat.le_trans (leaves_nodes t) HN.out;have hof:=Cx.ofC_any (dl t) (leaves t).length A2 c2 w2 (dl_len t) hm ho.rd;have HOF:=Lib.hid hof;have HM:=Lib.hid hm;clear k0 k1 ho hg hb2 hof hm;have k0:=HK2.out.c0;have k1:=HK2.out.c1;go_wp2_with fail;refine HOF.out.mono ?_;rintro e w3 (⟨_,u,q,A3,c3,rfl,hu1,hu2,hq,hr3,hb3⟩ | ⟨hno,_⟩)
 ·have HB3:=Lib.hid (HK2.out.later hb3).below
  have HU1:=Lib.hid hu1;have HU2:=Lib.hid hu2;have HR3:=Lib.hid hr3;have HQ:=Lib.hid hq;clear hb3 hu1 hu2 hr3 hq;go_wp2;go_ret2;exact⟨u,q,A3,c3,rfl,HU1.out,HU2.out,by have:=HQ.out;have:=leaves_nodes t;omega,HR3.out,HB3.out⟩
 ·exact absurd (good_dl (rightB_iff.1 HZ.out)) hno
end Tr
end Go.Proofs.YtjpcechcefhcfaaGreat
