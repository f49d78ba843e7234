/- Changes: is there room: the document's. -/
import Derived.Test.YtgeafpaognhokaaGreatG00
import Derived.Test.YtgeafpaognhokaaGreatG60
namespace Go.Proofs.YtgeafpaognhokaaGreat
open Go.ChangeShapes Go.WideShapes Go.ChangeAt Go.RowKit
namespace Cs
open Tr Cx Sp Rw Classical
noncomputable def fullB (t:T) (o:OpM):Bool:=decide (brings o.act∧((∃ (k:Nat) (h:k<(endP o).length),24≤(getT t ((endP o).take k)).ks.length∧(endP o)[k]∉keysOf (getT t ((endP o).take k)).ks)∨(o.act=5∧24≤(getT t (endP o)).es.length)))
theorem infoT:(Tryz.prog.info? 9).map (fun i=>(i.zero,i.size,i.bytes))=some (some (.string ⟨#[]⟩),1,16):=by kernel_rfl
theorem cut_strs (A:Option Addr) (n c k:Nat) (hk:k≤c) (W:World):(Instr.slice 25 (.slice A n c) none (some (.int .i64 (k:Nat))) none).run Tryz.prog W = .ok (.slice A k c) W:=by
 obtain⟨i0,hi0,hz0,hz1,hz2⟩:=info_of infoT;exact run_cut_to (P:=Tryz.prog) 25 9 1 Tryz.underlying25 hi0 hz1 A n c k hk W
theorem rd_cut {w:World} {B n c k:Nat} {A:Option Addr} {l:List ByteArray} (h:Rd w B 1 A n c (strs l)) (hk:k≤n):Rd w B 1 A k c (strs (l.take k)):=by
 have hl:=rd_len1 h;refine⟨?_,Nat.le_trans hk h.cap,fun u hu=>h.one u ?_,fun h0=>?_⟩
 ·rw[strs_len,List.length_take];omega
 ·unfold Tr.strs at hu ⊢
  rw[List.map_take]at hu;exact List.mem_of_mem_take hu
 ·obtain⟨b,o,e,hb,hc⟩:=h.at_ (by omega)
  refine⟨b,o,e,hb,fun j u hu=>hc j u ?_⟩;unfold Tr.strs at hu ⊢;rw[List.map_take,List.getElem?_take]at hu
  split at hu
  ·exact hu
  ·cases hu
theorem boxTO2 (w:World) (Ae Ak:Option Addr) (ne nk ce ck:Nat) (xA:Option Addr) (xn xc:Nat) (xa:Int) (xs:ByteArray) (xv:Int):∃ (W:World) (p q:Nat),Hid (W=((w.alloc (.cells #[.slice Ae ne ce,.slice Ak nk ck] 35)).alloc (.cells #[.slice xA xn xc,.int .i64 xa,.string xs,.int .i64 xv] 27)))∧Hid (p=w.heap.size)∧Hid (q=p+1)∧Hid (Kept [(⟨p,0,none⟩,.slice Ae ne ce),(⟨p,1,none⟩,.slice Ak nk ck),(⟨q,0,none⟩,.slice xA xn xc),(⟨q,1,none⟩,.int .i64 xa),(⟨q,2,none⟩,.string xs),(⟨q,3,none⟩,.int .i64 xv)] w W):=by
 refine⟨_,_,_,rfl,rfl,rfl,?_⟩;have h0:=Kept.nil_of (show Below w.heap.size w (((w.alloc (.cells #[.slice Ae ne ce,.slice Ak nk ck] 35)).alloc (.cells #[.slice xA xn xc,.int .i64 xa,.string xs,.int .i64 xv] 27))) from ((Below.refl _ _).alloc (Nat.le_refl _) _).alloc (by simp) _)
 refine ((((((h0).cons_of ?_).cons_of ?_).cons_of ?_).cons_of ?_).cons_of ?_).cons_of ?_ <;> go_simp
set_option maxRecDepth 100000 in
set_option maxHeartbeats 4000000 in
theorem reffull_any15 (t:T) (Ae Ak:Option Addr) (ne nk ce ck:Nat) (xp:List ByteArray) (xa:Int) (xs:ByteArray) (xv:Int) (xA:Option Addr) (xn xc:Nat) (w:World) (z:Bool) (hz:fullB t ⟨xp,xa,xs,xv⟩=z) (ht:RightT 5 t) (hl:LenT reachBytes t) (hn:nodes t≤1000) (hr:RdT w w.heap.size t ⟨Ae,ne,ce⟩ ⟨Ak,nk,ck⟩) (hn1:xn≤900) (hrx:Rd w w.heap.size 1 xA xn xc (strs xp)) :
  Calls Tryz.prog 53 #[.agg #[.slice Ae ne ce,.slice Ak nk ck],.agg #[.slice xA xn xc,.int .i64 xa,.string xs,.int .i64 xv]] w fun e w'=>e = .returned (.bool z)∧Below w.heap.size w w':=by
 obtain⟨W,p,q,HW,HP,HQ,HKc⟩:=boxTO2 w Ae Ak ne nk ce ck xA xn xc xa xs xv;have R:=Lib.hid (RdT.later hr HKc.out.below);have RX:=Lib.hid (hrx.later HKc.out.below);have HT:=Lib.hid ht;have HR0:=Lib.hid hr;have N:=Lib.hid (And.intro hn (And.intro hn1 hl));obtain⟨y,hy⟩:∃ y,decide (brings xa)=y:=⟨_,rfl⟩;have HY:=Lib.hid hy;have HZ:=Lib.hid hz;clear hl hr hrx ht hn hn1 hz hy;obtain⟨c0,c1,c2,c3,c4,c5,-⟩:=HKc.out.cj;go_enter Tryz.func53,Tryz.ntmps53;go_wp2_with fail;rw[← HW.out,← HP.out]
 try rw[← HQ.out]
 refine (refentry_any xa W y HY.out).mono ?_;rintro e v1 ⟨rfl,hb9⟩;have HKc:=Lib.hid (HKc.out.later hb9);have R:=Lib.hid (RdT.later R.out hb9);have RX:=Lib.hid (RX.out.later hb9);clear hb9;clear c0 c1 c2 c3 c4 c5
 cases y with
 | false=>
  obtain rfl:z=false:=by
   rw[← HZ.out];exact decide_eq_false fun h=>absurd h.1 (of_decide_eq_false HY.out)
  go_wp2_with fail;go_ret;exact⟨by first | rfl | simp,HKc.out.below⟩
 | true=>
  obtain⟨c0,c1,c2,c3,c4,c5,-⟩:=HKc.out.cj;go_wp2_with fail;refine (refend_any xp xa xs xv xA xn xc v1 (by have:=N.out;omega) RX.out).mono ?_;rintro e v2 ⟨eA,em,ec,rfl,ho,hem,hb9⟩;have HM4:=Lib.hid hem.out;have RE:=Lib.hid ho.out.rd;clear ho hem;have HKc:=Lib.hid (HKc.out.later hb9);have R:=Lib.hid (RdT.later R.out hb9);have RX:=Lib.hid (RX.out.later hb9);clear hb9;clear c0 c1 c2 c3 c4 c5;obtain⟨ep,hep⟩:∃ l,l=endP ⟨xp,xa,xs,xv⟩:=⟨_,rfl⟩;rw[← hep]at RE;have HLE:=Lib.hid (rd_len1 RE.out);have HCE:Hid (em≤ec):=RE.out.cap
  have HYES:Hid ((∃ (k:Nat) (h:k<ep.length),24≤(getT t (ep.take k)).ks.length∧ep[k]∉keysOf (getT t (ep.take k)).ks)∨(xa=5∧24≤(getT t ep).es.length)→z=true):=fun h=>by
   rw[← HZ.out];unfold fullB;rw[← hep];exact decide_eq_true ⟨of_decide_eq_true HY.out,h⟩
  have HNOT:Hid ((∀ (j:Nat) (h:j<ep.length),j<ep.length→¬(24≤(getT t (ep.take j)).ks.length∧ep[j]∉keysOf (getT t (ep.take j)).ks))→z=decide (xa=5∧24≤(getT t ep).es.length)):=fun h=>by
   rw[← HZ.out];unfold fullB;rw[← hep];refine decide_eq_decide.2 ⟨fun h2=>?_,fun h2=>⟨of_decide_eq_true HY.out,.inr h2⟩⟩
   rcases h2.2 with ⟨k,hk,h3⟩ | h3
   ·exact absurd h3 (h k hk hk)
   ·exact h3
  clear hep;obtain⟨c0,c1,c2,c3,c4,c5,-⟩:=HKc.out.cj;go_wp2_with fail
  go_loopw [16] (fun i wr=>∃ (k:Nat),k≤em∧i = .int .i64 k∧Hid (∀ (j:Nat) (h:j<ep.length),j<k→¬(24≤(getT t (ep.take j)).ks.length∧ep[j]∉keysOf (getT t (ep.take j)).ks))∧Hid (Kept [(⟨p,0,none⟩,.slice Ae ne ce),(⟨p,1,none⟩,.slice Ak nk ck),(⟨q,0,none⟩,.slice xA xn xc),(⟨q,1,none⟩,.int .i64 xa),(⟨q,2,none⟩,.string xs),(⟨q,3,none⟩,.int .i64 xv)] w wr)∧Hid (Below v2.heap.size v2 wr)) (fun i _=>em-(intOf i).toNat)
  case atStart=>exact⟨0,by omega,rfl,fun j _ h=>absurd h (by omega),HKc.out,Below.refl _ _⟩
  case round=>
   obtain⟨k,hk,rfl,HI,HKW,HBL⟩:=hrel;obtain⟨wo,hwo⟩:∃ W,W=wr:=⟨_,rfl⟩;subst hwo;have RW:=Lib.hid (RdT.later R.out HBL.out);have REW:=Lib.hid (RE.out.later HBL.out);have HKc:=HKW;have hk4:=HM4.out;have hk5:=N.out.2.1;clear HKW c0 c1 c2 c3 c4 c5
   by_cases hlt:k<em
   ·have hkl:k<ep.length:=by rw[HLE.out];exact hlt
    have HCUT:Hid (∀ W,(Instr.slice 25 (.slice eA em ec) none (some (.int .i64 (k:Nat))) none).run Tryz.prog W = .ok (.slice eA k ec) W):=fun W=>cut_strs eA em ec k (by have:=HCE.out;omega) W;have hcut9:=HCUT.out;have RC:=Lib.hid (rd_cut REW.out (Nat.le_of_lt hlt))
    have HLC:Hid ((ep.take k).length=k):=by unfold Hid;rw[List.length_take];omega
    have HTG:=Lib.hid (getT_right HT.out (ep.take k));have HNG:Hid (nodes (getT t (ep.take k))≤1000):=Nat.le_trans (nodes_getT t (ep.take k)) N.out.1;obtain⟨c0,c1,c2,c3,c4,c5,-⟩:=HKc.out.cj;go_wp2_with fail;clear c0 c1 c2 c3 c4 c5
    go_cut [7] (fun s9 wx=>∃ (g9:Nat) (a9 b9:SV),s9 = .pointer (some ⟨g9,0,none⟩)∧Hid (MidR wo g9 (getT t (ep.take k)) a9 b9 wx))
    case first=>
     refine wp_region_held_drew (S:=Conj _) (by kernel_rfl) HKc.out.drew.cj (fun hHeld=>?_);obtain⟨v21,hv21⟩:∃ v,v=wo.drew:=⟨_,rfl⟩
     have hb9:Below wo.heap.size wo v21:=by rw[hv21];exact (Below.refl _ _).drew
     have HKc:=Lib.hid (HKc.out.later hb9);have RW:=Lib.hid (RdT.later RW.out hb9);have REW:=Lib.hid (REW.out.later hb9);have RC:=Lib.hid (RC.out.later hb9);clear hb9;have HBV9:Hid (wo.drew=v21):=hv21.symm;rw[← hv21]at hHeld ⊢;clear hv21
     have HBV:Hid (Below wo.heap.size wo v21):=by unfold Hid;rw[← HBV9.out];exact (Below.refl _ _).drew
     clear HBV9;refine Tk 0 19 ?_;refine Tk 1 20 ?_;refine Tk 2 21 ?_;refine Tk 3 22 ?_;refine wpAnyH_ready (rs:=[4,5]) (by kernel_rfl) (by simp) ?_;refine AllReadyH.cons (o:=⟨some 23,_,_,_,_,_⟩) rfl (fun K hK=>?_) (AllReadyH.cons (o:=⟨some 7,_,_,_,_,_⟩) rfl (fun K hK=>?_) (AllReadyH.nil))
     ·go_simp
      (go_at_call 61;refine (refget_any 4 t Ae Ak ne nk ce ck v21 (ep.take k) eA k ec HLC.out (by omega) RC.out HT.out (by have:=N.out;omega) RW.out).mono ?_);rintro e v22 ⟨Ge,gn,gc,Gk,gm,gd,rfl,ho,hb9⟩;have HN:Hid (RdO v22 (fun k9=>wo.heap.size≤k9) (getT t (ep.take k)) ⟨Ge,gn,gc⟩ ⟨Gk,gm,gd⟩):=RdO.mono (fun k9 hb _=>Nat.le_trans HBV.out.size hb) _ ho;clear ho;have HKc:=Lib.hid (HKc.out.later hb9);have RW:=Lib.hid (RdT.later RW.out hb9);have REW:=Lib.hid (REW.out.later hb9);have RC:=Lib.hid (RC.out.later hb9);have HBV:=Lib.hid (HBV.out.trans (hb9.mono HBV.out.size));clear hb9;clear hHeld;refine Th hK ?_ (fun hHeld=>?_)
      ·exact HKc.out.cj
      clear hK K;refine Tc 5 (fun K hK=>?_);go_simp;clear hHeld;refine Th hK ?_ (fun hHeld=>?_)
      ·exact (HKc.out.alloc _).cj
      clear hK K;obtain⟨b,hb⟩:∃ g,g=v22.heap.size:=⟨_,rfl⟩;obtain⟨v23,hv23⟩:∃ W,W=v22.alloc (.cells #[.slice none 0 0,.slice none 0 0] 35):=⟨_,rfl⟩
      have hb9:Below v22.heap.size v22 v23:=by rw[hv23];exact Dt.box_below _ _ _
      have hvg:wo.heap.size≤b:=by rw[hb];exact HBV.out.size
      have hwg:w.heap.size≤b:=by rw[hb];exact HKc.out.below.size
      have hnp:p≠b:=by have h:=World.block_lt_of_cell? v22 _ HKc.out.c0;dsimp only at h;omega
      have hnq:q≠b:=by have h:=World.block_lt_of_cell? v22 _ HKc.out.c2;dsimp only at h;omega
      have b0:v23.cell? ⟨b,0,none⟩=some (.slice none 0 0):=by rw[hv23,hb];go_simp
      have b1:v23.cell? ⟨b,1,none⟩=some (.slice none 0 0):=by rw[hv23,hb];go_simp
      have HN:=Lib.hid (RdO.mono (ok':=fun k9=>wo.heap.size≤k9∧k9≠b) (fun k9 hb hlt=>⟨hb,by omega⟩) _ HN.out);have HKc:=Lib.hid (HKc.out.later hb9);have RW:=Lib.hid (RdT.later RW.out hb9);have REW:=Lib.hid (REW.out.later hb9);have RC:=Lib.hid (RC.out.later hb9);have HBV:=Lib.hid (HBV.out.trans (hb9.mono HBV.out.size));have HN:=Lib.hid (RdO.later HN.out hb9);have HZ:=Lib.hid (((Kept.nil_of HBV.out).cons_of b1).cons_of b0);have HF:Hid (Free b v23):=⟨by rw[hv23,hb];simp,fun j=>by rw[hv23,hb];go_simp⟩;have hlt9:b<v23.heap.size:=HF.out.1;(try rw[← hv23]at hHeld);rw[← hv23];rw[← hb];clear hb hv23 hb9 b0 b1;have z0:=HZ.out.c0;have z1:=HZ.out.c1;have m0:=HF.out.2 0;have m1:=HF.out.2 1;refine Tc 6 (fun K hK=>?_);go_simp;refine Th hK ?_ (fun hHeld2=>?_)
      ·(try dsimp only)
       have h9:=HKc.out
       have h9:=h9.set (a:=⟨b,0,none⟩) hwg (fun x hx=>by simp at hx;rcases hx with rfl | rfl | rfl | rfl | rfl | rfl <;> (dsimp only;omega)) (.slice Ge gn gc)
       have h9:=h9.set (a:=⟨b,1,none⟩) hwg (fun x hx=>by simp at hx;rcases hx with rfl | rfl | rfl | rfl | rfl | rfl <;> (dsimp only;omega)) (.slice Gk gm gd)
       exact h9.cj
      clear hK K hHeld;have hHeld:=hHeld2;clear hHeld2;refine wpAnyH_done (by kernel_rfl) ?_ _;clear hHeld
      have HMID:Hid (MidR wo b (getT t (ep.take k)) ⟨Ge,gn,gc⟩ ⟨Gk,gm,gd⟩ ((v23.setCell ⟨b,0,none⟩ (.slice Ge gn gc)).setCell ⟨b,1,none⟩ (.slice Gk gm gd))):=by
       obtain⟨W9,hW9⟩:∃ W,W=((v23.setCell ⟨b,0,none⟩ (.slice Ge gn gc)).setCell ⟨b,1,none⟩ (.slice Gk gm gd)):=⟨_,rfl⟩;rw[← hW9]
       have hb:Below wo.heap.size wo W9:=by
        rw[hW9];exact ((HBV.out.setCell (p:=⟨b,0,none⟩) hvg _).setCell (p:=⟨b,1,none⟩) hvg _)
       have hfr:Free b W9:=by rw[hW9];exact (HF.out.set _ _).set _ _
       refine⟨hvg,hfr,RdO.keep (by rw[hW9];simp[World.setCell]) (fun k9 hb _=>?_) _ HN.out,?_⟩
       ·rw[hW9]
        exact (Below.heap_setCell _ ⟨b,1,none⟩ _ k9 (fun e=>hb.2 e)).trans (Below.heap_setCell _ ⟨b,0,none⟩ _ k9 (fun e=>hb.2 e))
       ·refine ((Kept.nil_of hb).cons_of ?_).cons_of ?_ <;> (rw[hW9];go_simp)
      clear z0 z1 m0 m1;go_wp2_with fail;go_meet;exact⟨b,⟨Ge,gn,gc⟩,⟨Gk,gm,gd⟩,rfl,HMID.out⟩
     ·go_simp
      clear hHeld;refine Th hK ?_ (fun hHeld=>?_)
      ·exact (HKc.out.alloc _).cj
      clear hK K;obtain⟨b,hb⟩:∃ g,g=v21.heap.size:=⟨_,rfl⟩;obtain⟨v22,hv22⟩:∃ W,W=v21.alloc (.cells #[.slice none 0 0,.slice none 0 0] 35):=⟨_,rfl⟩
      have hb9:Below v21.heap.size v21 v22:=by rw[hv22];exact Dt.box_below _ _ _
      have hvg:wo.heap.size≤b:=by rw[hb];exact HBV.out.size
      have hwg:w.heap.size≤b:=by rw[hb];exact HKc.out.below.size
      have hnp:p≠b:=by have h:=World.block_lt_of_cell? v21 _ HKc.out.c0;dsimp only at h;omega
      have hnq:q≠b:=by have h:=World.block_lt_of_cell? v21 _ HKc.out.c2;dsimp only at h;omega
      have b0:v22.cell? ⟨b,0,none⟩=some (.slice none 0 0):=by rw[hv22,hb];go_simp
      have b1:v22.cell? ⟨b,1,none⟩=some (.slice none 0 0):=by rw[hv22,hb];go_simp
      have HKc:=Lib.hid (HKc.out.later hb9);have RW:=Lib.hid (RdT.later RW.out hb9);have REW:=Lib.hid (REW.out.later hb9);have RC:=Lib.hid (RC.out.later hb9);have HBV:=Lib.hid (HBV.out.trans (hb9.mono HBV.out.size));have HZ:=Lib.hid (((Kept.nil_of HBV.out).cons_of b1).cons_of b0);have HF:Hid (Free b v22):=⟨by rw[hv22,hb];simp,fun j=>by rw[hv22,hb];go_simp⟩;have hlt9:b<v22.heap.size:=HF.out.1;(try rw[← hv22]at hHeld);rw[← hv22];rw[← hb];clear hb hv22 hb9 b0 b1;refine Tc 4 (fun K hK=>?_);go_simp;(go_at_call 61;refine (refget_any 4 t Ae Ak ne nk ce ck v22 (ep.take k) eA k ec HLC.out (by omega) RC.out HT.out (by have:=N.out;omega) RW.out).mono ?_);rintro e v23 ⟨Ge,gn,gc,Gk,gm,gd,rfl,ho,hb9⟩;have HN:Hid (RdO v23 (fun k9=>wo.heap.size≤k9∧k9≠b) (getT t (ep.take k)) ⟨Ge,gn,gc⟩ ⟨Gk,gm,gd⟩):=RdO.mono (fun k9 hb _=>⟨Nat.le_trans HBV.out.size hb,by have h:=HF.out.1;omega⟩) _ ho
      clear ho;have HKc:=Lib.hid (HKc.out.later hb9);have RW:=Lib.hid (RdT.later RW.out hb9);have REW:=Lib.hid (REW.out.later hb9);have RC:=Lib.hid (RC.out.later hb9);have HBV:=Lib.hid (HBV.out.trans (hb9.mono HBV.out.size));have HZ:=Lib.hid (HZ.out.later hb9);have HF:=Lib.hid (HF.out.later hb9);clear hb9;have z0:=HZ.out.c0;have z1:=HZ.out.c1;have m0:=HF.out.2 0;have m1:=HF.out.2 1;clear hHeld;refine Th hK ?_ (fun hHeld=>?_)
      ·exact HKc.out.cj
      clear hK K;refine Tc 6 (fun K hK=>?_);go_simp;refine Th hK ?_ (fun hHeld2=>?_)
      ·(try dsimp only)
       have h9:=HKc.out
       have h9:=h9.set (a:=⟨b,0,none⟩) hwg (fun x hx=>by simp at hx;rcases hx with rfl | rfl | rfl | rfl | rfl | rfl <;> (dsimp only;omega)) (.slice Ge gn gc)
       have h9:=h9.set (a:=⟨b,1,none⟩) hwg (fun x hx=>by simp at hx;rcases hx with rfl | rfl | rfl | rfl | rfl | rfl <;> (dsimp only;omega)) (.slice Gk gm gd)
       exact h9.cj
      clear hK K hHeld;have hHeld:=hHeld2;clear hHeld2;refine wpAnyH_done (by kernel_rfl) ?_ _;clear hHeld
      have HMID:Hid (MidR wo b (getT t (ep.take k)) ⟨Ge,gn,gc⟩ ⟨Gk,gm,gd⟩ ((v23.setCell ⟨b,0,none⟩ (.slice Ge gn gc)).setCell ⟨b,1,none⟩ (.slice Gk gm gd))):=by
       obtain⟨W9,hW9⟩:∃ W,W=((v23.setCell ⟨b,0,none⟩ (.slice Ge gn gc)).setCell ⟨b,1,none⟩ (.slice Gk gm gd)):=⟨_,rfl⟩;rw[← hW9]
       have hb:Below wo.heap.size wo W9:=by
        rw[hW9];exact ((HBV.out.setCell (p:=⟨b,0,none⟩) hvg _).setCell (p:=⟨b,1,none⟩) hvg _)
       have hfr:Free b W9:=by rw[hW9];exact (HF.out.set _ _).set _ _
       refine⟨hvg,hfr,RdO.keep (by rw[hW9];simp[World.setCell]) (fun k9 hb _=>?_) _ HN.out,?_⟩
       ·rw[hW9]
        exact (Below.heap_setCell _ ⟨b,1,none⟩ _ k9 (fun e=>hb.2 e)).trans (Below.heap_setCell _ ⟨b,0,none⟩ _ k9 (fun e=>hb.2 e))
       ·refine ((Kept.nil_of hb).cons_of ?_).cons_of ?_ <;> (rw[hW9];go_simp)
      clear z0 z1 m0 m1;go_wp2_with fail;go_meet;exact⟨b,⟨Ge,gn,gc⟩,⟨Gk,gm,gd⟩,rfl,HMID.out⟩
    case rest=>
     obtain⟨wcb,hwcb⟩:∃ W,W=wc:=⟨_,rfl⟩;subst hwcb;obtain⟨b,⟨Ge,gn,gc⟩,⟨Gk,gm,gd⟩,rfl,hmid⟩:=hcut;obtain⟨hgl,hfr,hro,hkp⟩:=hmid.out;have hb9:=hkp.below;have HBK:Hid (Below wo.heap.size wo wcb):=hb9;have HKc:=Lib.hid (HKc.out.later hb9);have RW:=Lib.hid (RdT.later RW.out hb9);have REW:=Lib.hid (REW.out.later hb9);have RC:=Lib.hid (RC.out.later hb9);clear hb9;have HOb:Hid (RdO wcb (fun k=>wo.heap.size≤k∧k≠b) (getT t (ep.take k)) ⟨Ge,gn,gc⟩ ⟨Gk,gm,gd⟩):=hro;have Rb:Hid (RdT wcb wcb.heap.size (getT t (ep.take k)) ⟨Ge,gn,gc⟩ ⟨Gk,gm,gd⟩):=RdO.rd _ hro;have HFb:Hid (Free b wcb):=hfr;have HLb:Hid (wo.heap.size≤b):=hgl;have HKc:=Lib.hid ((HKc.out.cons_of hkp.c1).cons_of hkp.c0);clear hmid hro hkp hgl hfr;have hkk:=REW.out;obtain⟨eb,eo,rfl,hgl,hc⟩:=rd_text REW.out (by omega);have e0:=hc k hkl
     obtain⟨key,hkey⟩:∃ s,s=ep[k]:=⟨_,rfl⟩;rw[← hkey]at e0
     have HNK:Hid ((getT t (ep.take k)).ks.length=gm):=by
      have h:=Rb.out;rw[← T.eta (getT t (ep.take k))]at h;exact (rd_lens h).2
     obtain⟨y5,hy5⟩:∃ y,decide (key∈keysOf (getT t (ep.take k)).ks)=y:=⟨_,rfl⟩;have HY5:=Lib.hid hy5;have HKE:=Lib.hid (HKc.out.cons_of e0)
     have HIK:Hid (¬(24≤gm∧y5=false)→(∀ (j:Nat) (h:j<ep.length),j<(k+1)→¬(24≤(getT t (ep.take j)).ks.length∧ep[j]∉keysOf (getT t (ep.take j)).ks))):=fun hno j hj hjk=>by
      by_cases e:j=k
      ·subst e
       rintro⟨h1,h2⟩;refine hno ⟨by rw[← HNK.out];exact h1,?_⟩;rw[← hy5,hkey];exact decide_eq_false h2
      ·exact HI.out j hj (by omega)
     have HYE:Hid (24≤gm∧y5=false→z=true):=fun ⟨h1,h2⟩=>by
      refine HYES.out (.inl ⟨k,hkl,by rw[HNK.out];exact h1,?_⟩);rw[← hkey];exact of_decide_eq_false (hy5.trans h2)
     clear hkk hgl hc hkey hy5 e0 HKc;have HKc:=HKE;clear HKE;have HBZ:Hid (Below v2.heap.size v2 wcb):=HBL.out.trans ((HBK.out).mono HBL.out.size)
     by_cases h24:24≤gm
     ·have f24:decide ((24:Int)≤(gm:Int))=true:=decide_eq_true (by omega)
      obtain⟨c0,c1,c2,c3,c4,c5,c6,c7,c8,-⟩:=HKc.out.cj;go_wp2_with fail;clear c0 c1 c2 c3 c4 c5 c6 c7 c8
      cases y5 with
      | false=>
       refine wp_region_held_drew (S:=Conj _) (by kernel_rfl) HKc.out.drew.cj (fun hHeld=>?_);obtain⟨v21,hv21⟩:∃ v,v=wcb.drew:=⟨_,rfl⟩
       have hb9:Below wcb.heap.size wcb v21:=by rw[hv21];exact (Below.refl _ _).drew
       have HKc:=Lib.hid (HKc.out.later hb9);have RW:=Lib.hid (RdT.later RW.out hb9);have REW:=Lib.hid (REW.out.later hb9);have RC:=Lib.hid (RC.out.later hb9);have Rb:=Lib.hid (RdT.later Rb.out hb9);have HFb:=Lib.hid (HFb.out.later hb9);have HOb:=Lib.hid (RdO.later HOb.out hb9);have HBZ:=Lib.hid (HBZ.out.trans (hb9.mono HBZ.out.size));clear hb9;rw[← hv21]at hHeld ⊢;clear hv21;refine Tk 0 24 ?_;refine Tk 1 25 ?_;refine Tk 2 26 ?_;refine Tk 3 27 ?_;refine Tk 4 28 ?_;refine Tk 5 29 ?_;refine Tk 6 30 ?_;refine Tk 7 31 ?_;refine Tk 8 32 ?_;refine Tk 9 33 ?_;refine Tc 10 (fun K hK=>?_);go_simp;(go_at_call 108;refine (refkid_any (getT t (ep.take k)) Ge Gk gn gm gc gd key v21 false HY5.out (LenT.few (by have:=HNG.out;omega)) HNG.out Rb.out).mono ?_);rintro e v22 ⟨rfl,hb9⟩;have HKc:=Lib.hid (HKc.out.later hb9);have RW:=Lib.hid (RdT.later RW.out hb9)
       have REW:=Lib.hid (REW.out.later hb9);have RC:=Lib.hid (RC.out.later hb9);have Rb:=Lib.hid (RdT.later Rb.out hb9);have HFb:=Lib.hid (HFb.out.later hb9);have HOb:=Lib.hid (RdO.later HOb.out hb9);have HBZ:=Lib.hid (HBZ.out.trans (hb9.mono HBZ.out.size));clear hb9;clear hHeld;refine Th hK ?_ (fun hHeld=>?_)
       ·exact HKc.out.cj
       clear hK K;refine Tk 11 35 ?_;refine Tk 12 36 ?_;refine wpAnyH_done (by kernel_rfl) ?_ _;clear hHeld;obtain rfl:z=true:=HYE.out ⟨h24,rfl⟩;go_wp2_with fail;go_ret;exact⟨by first | rfl | simp,HKc.out.below⟩
      | true=>
       refine wp_region_held_drew (S:=Conj _) (by kernel_rfl) HKc.out.drew.cj (fun hHeld=>?_);obtain⟨v21,hv21⟩:∃ v,v=wcb.drew:=⟨_,rfl⟩
       have hb9:Below wcb.heap.size wcb v21:=by rw[hv21];exact (Below.refl _ _).drew
       have HKc:=Lib.hid (HKc.out.later hb9);have RW:=Lib.hid (RdT.later RW.out hb9);have REW:=Lib.hid (REW.out.later hb9);have RC:=Lib.hid (RC.out.later hb9);have Rb:=Lib.hid (RdT.later Rb.out hb9);have HFb:=Lib.hid (HFb.out.later hb9);have HOb:=Lib.hid (RdO.later HOb.out hb9);have HBZ:=Lib.hid (HBZ.out.trans (hb9.mono HBZ.out.size));clear hb9;rw[← hv21]at hHeld ⊢;clear hv21;refine Tk 0 24 ?_;refine Tk 1 25 ?_;refine Tk 2 26 ?_;refine Tk 3 27 ?_;refine Tk 4 28 ?_;refine Tk 5 29 ?_;refine Tk 6 30 ?_;refine Tk 7 31 ?_;refine Tk 8 32 ?_;refine Tk 9 33 ?_;refine Tc 10 (fun K hK=>?_);go_simp;(go_at_call 108;refine (refkid_any (getT t (ep.take k)) Ge Gk gn gm gc gd key v21 true HY5.out (LenT.few (by have:=HNG.out;omega)) HNG.out Rb.out).mono ?_);rintro e v22 ⟨rfl,hb9⟩;have HKc:=Lib.hid (HKc.out.later hb9);have RW:=Lib.hid (RdT.later RW.out hb9)
       have REW:=Lib.hid (REW.out.later hb9);have RC:=Lib.hid (RC.out.later hb9);have Rb:=Lib.hid (RdT.later Rb.out hb9);have HFb:=Lib.hid (HFb.out.later hb9);have HOb:=Lib.hid (RdO.later HOb.out hb9);have HBZ:=Lib.hid (HBZ.out.trans (hb9.mono HBZ.out.size));clear hb9;clear hHeld;refine Th hK ?_ (fun hHeld=>?_)
       ·exact HKc.out.cj
       clear hK K;refine Tk 11 35 ?_;refine Tk 12 36 ?_;refine wpAnyH_done (by kernel_rfl) ?_ _;clear hHeld;have HI2:=Lib.hid (HIK.out (by first | (rintro⟨h8,h9⟩;omega) | (rintro⟨h8,h9⟩;cases h9)));have HKZ:=Lib.hid (HKc.out.tail.tail.tail);go_wp2_with fail;go_roundw
       case rel=>exact⟨k+1,by omega,by go_num,HI2.out,HKZ.out,HBZ.out⟩
       case measure=>simp[intOf];omega
     ·have f24:decide ((24:Int)≤(gm:Int))=false:=decide_eq_false (by omega)
      obtain⟨c0,c1,c2,c3,c4,c5,c6,c7,c8,-⟩:=HKc.out.cj;go_wp2_with fail;clear c0 c1 c2 c3 c4 c5 c6 c7 c8;refine wp_region_held_drew (S:=Conj _) (by kernel_rfl) HKc.out.drew.cj (fun hHeld=>?_);obtain⟨v21,hv21⟩:∃ v,v=wcb.drew:=⟨_,rfl⟩
      have hb9:Below wcb.heap.size wcb v21:=by rw[hv21];exact (Below.refl _ _).drew
      have HKc:=Lib.hid (HKc.out.later hb9);have RW:=Lib.hid (RdT.later RW.out hb9);have REW:=Lib.hid (REW.out.later hb9);have RC:=Lib.hid (RC.out.later hb9);have Rb:=Lib.hid (RdT.later Rb.out hb9);have HFb:=Lib.hid (HFb.out.later hb9);have HOb:=Lib.hid (RdO.later HOb.out hb9);have HBZ:=Lib.hid (HBZ.out.trans (hb9.mono HBZ.out.size));clear hb9;rw[← hv21]at hHeld ⊢;clear hv21;refine Tk 0 24 ?_;refine Tk 1 25 ?_;refine Tk 2 26 ?_;refine Tk 3 27 ?_;refine Tk 4 28 ?_;refine Tn 5 29 ?_;refine Tn 6 30 ?_;refine Tn 7 31 ?_;refine Tn 8 32 ?_;refine Tn 9 33 ?_;refine Tn 10 34 ?_;refine Tn 11 35 ?_;refine Tk 12 36 ?_;refine wpAnyH_done (by kernel_rfl) ?_ _;clear hHeld;have HI2:=Lib.hid (HIK.out (by first | (rintro⟨h8,h9⟩;omega) | (rintro⟨h8,h9⟩;cases h9)));have HKZ:=Lib.hid (HKc.out.tail.tail.tail);go_wp2_with fail;go_roundw
      case rel=>exact⟨k+1,by omega,by go_num,HI2.out,HKZ.out,HBZ.out⟩
      case measure=>simp[intOf];omega
   ·obtain rfl:k=em:=by omega
    have HZE:=Lib.hid (HNOT.out (fun j hj _=>HI.out j hj (by rw[← HLE.out];exact hj)))
    by_cases h5:xa=5
    ·subst h5
     have HTG:=Lib.hid (getT_right HT.out ep);have HNG:Hid (nodes (getT t ep)≤1000):=Nat.le_trans (nodes_getT t ep) N.out.1;obtain⟨c0,c1,c2,c3,c4,c5,-⟩:=HKc.out.cj;go_wp2_with fail;refine (refget_any 4 t Ae Ak ne nk ce ck wo ep eA k ec HLE.out (by omega) REW.out HT.out (by have:=N.out;omega) RW.out).mono ?_;rintro e v21 ⟨Ge,gn,gc,Gk,gm,gd,rfl,ho,hb9⟩
     have hge:(getT t ep).es.length=gn:=by
      have h:=ho.rd;rw[← T.eta (getT t ep)]at h;exact (rd_lens h).1
     have HGE:=Lib.hid hge;clear ho hge;have HKc:=Lib.hid (HKc.out.later hb9);have RW:=Lib.hid (RdT.later RW.out hb9);have REW:=Lib.hid (REW.out.later hb9);clear hb9;clear c0 c1 c2 c3 c4 c5
     have hfd:∀ w:World,(Instr.field 35 (.agg #[.slice Ge gn gc,.slice Gk gm gd]) 0).run Tryz.prog w = .ok (.slice Ge gn gc) w:=fun _=>by kernel_rfl
     have HZG:Hid (z=decide (24≤gn)):=by
      unfold Hid;rw[HZE.out,HGE.out];exact decide_eq_decide.2 ⟨fun h=>h.2,fun h=>⟨by first | trivial | rfl,h⟩⟩
     by_cases h24:24≤gn
     ·have f24:decide ((24:Int)≤(gn:Int))=true:=decide_eq_true (by omega)
      obtain rfl:z=true:=by rw[HZG.out];exact decide_eq_true h24
      go_wp2_with fail;go_ret;exact⟨by first | rfl | simp,HKc.out.below⟩
     ·have f24:decide ((24:Int)≤(gn:Int))=false:=decide_eq_false (by omega)
      obtain rfl:z=false:=by rw[HZG.out];exact decide_eq_false h24
      go_wp2_with fail;go_ret;exact⟨by first | rfl | simp,HKc.out.below⟩
    ·have f5:(xa==5)=false:=by simpa using h5
     obtain rfl:z=false:=by rw[HZE.out];exact decide_eq_false fun h=>h5 h.1
     obtain⟨c0,c1,c2,c3,c4,c5,-⟩:=HKc.out.cj;go_wp2_with fail;go_ret;exact⟨by first | rfl | simp,HKc.out.below⟩
end Cs
end Go.Proofs.YtgeafpaognhokaaGreat
