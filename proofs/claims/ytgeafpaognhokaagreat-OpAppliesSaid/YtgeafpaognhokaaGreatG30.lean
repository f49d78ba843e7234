/- Trees: what hangs below keys: the document's. -/
import Derived.Test.YtgeafpaognhokaaGreatTreeBuild
namespace Go.Proofs.YtgeafpaognhokaaGreat
open Go.ChangeShapes Go.WideShapes Go.ChangeAt Go.RowKit
namespace Tr
open Sp Rw
theorem nodes_get (t:T):∀ p:List ByteArray,nodes (getT t p)≤nodes t
 | []=>Nat.le_refl _
 | k::p=>by
  unfold getT;refine Nat.le_trans (nodes_get _ p) ?_
  cases t with
  | mk es ks=>
   show nodes (kidAt ks k)≤_
   rcases kidAt_mem (ks:=ks) (key:=k)with ⟨x,h1,_,h3⟩ | ⟨_,h2⟩
   ·rw[h3];exact nodes_kid h1
   ·rw[h2];unfold none_;rw[nodes_mk];simp
theorem right_get {d:Nat} : ∀ {t:T},RightT (d+1) t→∀ p:List ByteArray,RightT (d+1) (getT t p)
 | _,h,[]=>h
 | _,h,k::p=>right_get (h.kid k) p
theorem get_snoc (t:T):∀ (p:List ByteArray) (k:ByteArray),getT t (p++[k])=kidAt (getT t p).ks k
 | [],_=>rfl
 | x::p,k=>get_snoc (kidAt t.ks x) p k
set_option maxRecDepth 100000 in
set_option maxHeartbeats 4000000 in
theorem refget_any (d:Nat) (t:T) (Ae Ak:Option Addr) (ne nk ce ck:Nat) (w:World) (l:List ByteArray) (A:Option Addr) (n c:Nat) (hl9:l.length=n) (hn9:n≤100000) (hrl:Rd w w.heap.size 1 A n c (strs l)) (ht:RightT (d+1) t) (hn:nodes t≤100000) (hr:RdT w w.heap.size t ⟨Ae,ne,ce⟩ ⟨Ak,nk,ck⟩) :
  Calls Tryz.prog 61 #[.agg #[.slice Ae ne ce,.slice Ak nk ck],.slice A n c] w (fun e w'=>∃ Ae ne ce Ak nk ck,e = .returned (.agg #[.slice Ae ne ce,.slice Ak nk ck])∧RdO w' (fun b=>w.heap.size≤b) (getT t l) ⟨Ae,ne,ce⟩ ⟨Ak,nk,ck⟩∧Below w.heap.size w w'):=by
 have HL9:=Lib.hid hl9;have HRL:=Lib.hid hrl;have HT:=Lib.hid ht;have HN:=Lib.hid hn;have HR:=Lib.hid hr;clear hl9 hrl ht hn hr;obtain⟨g,hg⟩:∃ g,g=w.heap.size:=⟨_,rfl⟩;have HK:=Lib.hid (tree_box w Ae Ak ne nk ce ck);rw[← hg]at HK;obtain⟨W0,hW0⟩:∃ W,W=w.alloc (.cells #[.slice Ae ne ce,.slice Ak nk ck] 35):=⟨_,rfl⟩;rw[← hW0]at HK;have HG:=Lib.hid hg;have HW0:=Lib.hid hW0;have k0:=HK.out.c0;have k1:=HK.out.c1;clear hg hW0;obtain⟨q,hq⟩:∃ q,q=W0.heap.size:=⟨_,rfl⟩;obtain⟨W1,hW1⟩:∃ W,W=W0.alloc (.cells #[.slice none 0 0,.slice none 0 0] 35):=⟨_,rfl⟩
 have hb1:Below W0.heap.size W0 W1:=by rw[hW1];exact Dt.box_below _ _ _
 have q0:W1.cell? ⟨q,0,none⟩=some (.slice none 0 0):=by rw[hW1,hq];go_simp
 have q1:W1.cell? ⟨q,1,none⟩=some (.slice none 0 0):=by rw[hW1,hq];go_simp
 have HFQ:Hid (Free q W1):=⟨by rw[hW1,hq];simp,fun j=>by rw[hW1,hq];go_simp⟩;have HFG:Hid (Free g W1):=(show Free g W0 from⟨World.block_lt_of_cell? W0 _ HK.out.c0,fun j=>by rw[HW0.out,HG.out];go_simp⟩).later hb1;have HKB:=Lib.hid (((HK.out.later hb1).cons_of q1).cons_of q0)
 have HQ:Hid (q=g+1):=by unfold Hid;rw[hq,HW0.out,HG.out];simp
 have hgW:g<W0.heap.size:=World.block_lt_of_cell? W0 _ HK.out.c0
 have hgq:g≠q:=by omega
 have hgq2:¬q=g:=by omega
 have hwg:w.heap.size≤g:=by have:=HG.out;omega
 have hwq:w.heap.size≤q:=by omega
 have HW1:=Lib.hid hW1;have HBq:Hid (Below w.heap.size w W1):=HKB.out.below;clear hq hW1 hb1 q0 q1 k0 k1;go_enter Tryz.func61,Tryz.ntmps61;go_wp2_with fail;rw[← HG.out,← HW0.out,← HQ.out,← HW1.out];refine (leaves_any t Ae Ak ne nk ce ck W1 (by have:=HN.out;omega) (RdT.more HKB.out.below.size _ (RdT.below HR.out HKB.out.below))).mono ?_;rintro e w2 ⟨A2,c2,rfl,hl2,hb2⟩;obtain⟨m2,hm2⟩:∃ z,z=(leaves t).length:=⟨_,rfl⟩;rw[← hm2]at hl2 ⊢;have HL2:=Lib.hid hl2;have HK2:=Lib.hid (HKB.out.later hb2);have HFQ2:=Lib.hid (HFQ.out.later hb2)
 have hm25:m2≤100000:=by rw[hm2];exact Nat.le_trans (leaves_nodes t) HN.out
 clear hl2 hb2 hm2;go_wp2_with fail
 go_loopw [5,11] (fun s i wr=>∃ (k:Nat) (Ax:Option Addr) (m cx:Nat),k≤n∧i = .int .i64 k∧s = .slice Ax m cx∧m≤100000∧Hid (LfRd wr wr.heap.size Ax m cx (leaves (getT t (l.take k))))∧Hid (Kept [(⟨q,0,none⟩,.slice none 0 0),(⟨q,1,none⟩,.slice none 0 0),(⟨g,0,none⟩,.slice Ae ne ce),(⟨g,1,none⟩,.slice Ak nk ck)] w wr)∧Hid (Free q wr)) (fun _ i _=>n-(intOf i).toNat)
 case atStart=>exact⟨0,A2,m2,c2,by omega,rfl,rfl,hm25,HL2.out,HK2.out,HFQ2.out⟩
 case round=>
  obtain⟨k,Ax,m,cx,hk,rfl,rfl,hm5,HLF,HKW,HFQW⟩:=hrel
  by_cases hlt:k<n
  ·have hkl:k<l.length:=by rw[HL9.out];exact hlt
   obtain⟨b,o,rfl,hb,hc⟩:=HRL.out.at_ (by omega);obtain⟨x,hx⟩:∃ x,x=l[k]:=⟨_,rfl⟩;have cx9:=(HKW.out.below.cell (p:=⟨b,o+k,none⟩) hb).trans (hc k (.string x) (by rw[hx];simp[strs,hkl]));have hu:=right_get HT.out (l.take k);have hun:=under_any (leaves (getT t (l.take k))) m Ax cx x wr hm5 HLF.out
   have hul:under (leaves (getT t (l.take k))) x=leaves (getT t (l.take (k+1))):=by
    rw[under_leaves hu x,List.take_succ_eq_append_getElem hkl,get_snoc,hx]
   rw[hul]at hun;obtain⟨m3,hm3⟩:∃ z,z=(leaves (getT t (l.take (k+1)))).length:=⟨_,rfl⟩;rw[← hm3]at hun
   have hm35:m3≤100000:=by rw[hm3];exact Nat.le_trans (leaves_nodes _) (Nat.le_trans (nodes_get t _) HN.out)
   have HUN:=Lib.hid hun;clear hc hx hu hun hul hm3;go_wp2_with fail;refine HUN.out.mono ?_;rintro e w3 ⟨A3,c3,rfl,hl3,hb3⟩;have HL3:=Lib.hid hl3;have HK3:=Lib.hid (HKW.out.later hb3);have HFQ3:=Lib.hid (HFQW.out.later hb3);clear hl3 hb3 cx9;go_wp2_with fail;go_roundw
   case rel=>exact⟨k+1,A3,m3,c3,by omega,by go_num,rfl,hm35,HL3.out,HK3.out,HFQ3.out⟩
   case measure=>simp[intOf];omega
  ·obtain rfl:n=k:=by omega
   have hlf:=HLF.out;rw[List.take_of_length_le (by rw[HL9.out];omega)]at hlf;have HBU:=Lib.hid (build_any (d+1) (getT t l) (right_get HT.out l) Ax m cx wr (Nat.le_trans (nodes_get t l) HN.out) hlf);clear hlf;go_wp2_with fail;refine HBU.out.mono ?_;rintro e w5 ⟨Ae9,ne9,ce9,Ak9,nk9,ck9,rfl,hro,hb5⟩;have HK5:=Lib.hid (HKW.out.later hb5);have HFQ5:=Lib.hid (HFQW.out.later hb5);have HRO5:Hid (RdO w5 (fun b=>w.heap.size≤b∧b≠q) (getT t l) ⟨Ae9,ne9,ce9⟩ ⟨Ak9,nk9,ck9⟩):=RdO.mono (fun b hb _=>⟨Nat.le_trans HKW.out.below.size hb,fun e=>by have:=HFQW.out.1;omega⟩) _ hro;have k0:=HK5.out.c0;have k1:=HK5.out.c1;have m0:=HFQ5.out.2 0;have m1:=HFQ5.out.2 1;clear hro hb5;obtain⟨w9,hw9⟩:∃ W,W=(w5.setCell ⟨q,0,none⟩ (.slice Ae9 ne9 ce9)).setCell ⟨q,1,none⟩ (.slice Ak9 nk9 ck9):=⟨_,rfl⟩
   have HT9:Hid (RdO w9 (fun b=>w.heap.size≤b) (getT t l) ⟨Ae9,ne9,ce9⟩ ⟨Ak9,nk9,ck9⟩):=by
    unfold Hid;rw[hw9];refine RdO.mono (fun b hb _=>hb.1) _ (RdO.keep (ok:=fun b=>w.heap.size≤b∧b≠q) (by simp[World.setCell]) (fun b hb hlt=>?_) _ HRO5.out);exact (Below.heap_setCell _ ⟨q,1,none⟩ _ b (fun e=>hb.2 e)).trans (Below.heap_setCell _ ⟨q,0,none⟩ _ b (fun e=>hb.2 e))
   have HB9:Hid (Below w.heap.size w w9):=by unfold Hid;rw[hw9];exact (HK5.out.below.setCell (p:=⟨q,0,none⟩) hwq _).setCell (p:=⟨q,1,none⟩) hwq _
   have j0:w9.cell? ⟨q,0,none⟩=some (.slice Ae9 ne9 ce9):=by rw[hw9];go_simp
   have j1:w9.cell? ⟨q,1,none⟩=some (.slice Ak9 nk9 ck9):=by rw[hw9];go_simp
   have HW9:=Lib.hid hw9;clear hw9;go_wp2_with fail;rw[← HW9.out];refine bodyPost_ret (v:=.agg #[.slice Ae9 ne9 ce9,.slice Ak9 nk9 ck9]) (by simp[results,Tryz.results61,go_sem,j0,j1]) rfl ⟨Ae9,ne9,ce9,Ak9,nk9,ck9,rfl,HT9.out,HB9.out⟩
end Tr
end Go.Proofs.YtgeafpaognhokaaGreat
