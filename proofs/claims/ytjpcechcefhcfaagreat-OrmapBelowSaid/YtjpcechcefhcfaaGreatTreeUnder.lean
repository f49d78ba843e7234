/- Trees: the leaves below a key: the document's. -/
import Derived.Test.YtjpcechcefhcfaaGreatG00
import Derived.Test.YtjpcechcefhcfaaGreatTreeLeaves
namespace Go.Proofs.YtjpcechcefhcfaaGreat
open Go.ChangeShapes Go.WideShapes Go.ChangeAt Go.RowKit
namespace Tr
open Sp Rw
theorem RX.cut1 {w:World} {ok:Nat→Prop} {n c:Nat} {A:Option Addr} {xs:List Value} (h:RX w ok 1 A (n+1) c xs):RX w ok 1 (if c=1 then A else A.map (fun a:Addr=>a.add 1)) n (c-1) (xs.drop 1):=by
 have hc:=h.cap;have hl:=h.len;refine⟨by rw[List.length_drop,hl];omega,by omega,fun u hu=>h.one u (List.mem_of_mem_drop hu),fun hn=>?_⟩;obtain⟨b,o,rfl,h1,h2,h3⟩:=h.at_ (by omega);refine⟨b,o+1,?_,h1,h2,fun j u hu=>?_⟩
 ·rw[if_neg (by omega)]
  simp[Addr.add]
 ·rw[List.getElem?_drop]at hu
  have:=h3 (1+j) u hu
  rwa [← Nat.add_assoc]at this
theorem cutS1 (A:Option Addr) (n c:Nat) (W:World):(Instr.slice 44 (.slice A (n+1) c) (some (.int .i64 1)) none none).run Tryz.prog W = .ok (.slice (if c=1 then A else A.map (fun a:Addr=>a.add 1)) n (c-1)) W:=by
 obtain⟨i0,hi0,_,hz1,_⟩:=info_of infoS;exact run_cut_from (P:=Tryz.prog) 44 9 1 Tryz.underlying44 hi0 hz1 A (n+1) c 1 (by omega) W
theorem under_succ {ls:List Lf} {k:Nat} (h:k<ls.length) (key:ByteArray):under (ls.take (k+1)) key=under (ls.take k) key++under [ls[k]] key:=by rw[List.take_succ_eq_append_getElem h,under_append]
theorem under_len (ls:List Lf) (key:ByteArray):(under ls key).length≤ls.length:=List.length_filterMap_le _ _
set_option maxRecDepth 100000 in
set_option maxHeartbeats 4000000 in
theorem under_any (ls:List Lf) (n:Nat) (A:Option Addr) (c:Nat) (key:ByteArray) (w:World) (hn:n≤100000) (h:LfRd w w.heap.size A n c ls) :
  Calls Tryz.prog 55 #[.slice A n c,.string key] w fun e w'=>∃ A' c',e = .returned (.slice A' (under ls key).length c')∧LfRd w' w'.heap.size A' (under ls key).length c' (under ls key)∧Below w.heap.size w w':=by
 have HL:=Lib.hid h;have HN:=Lib.hid hn;have HLN:=Lib.hid h.1;have hn5:n≤100000:=HN.out;clear h hn;go_enter Tryz.func55,Tryz.ntmps55;go_wp2_with fail
 go_loopw [5,9] (fun s i wr=>∃ (k:Nat) (Ax:Option Addr) (m cx:Nat) (lr:List (SV×E)),k≤n∧i = .int .i64 k∧s = .slice Ax m cx∧Hid (LfRow wr w.heap.size 76 Ax m cx (under (ls.take k) key) lr)∧Hid (Below w.heap.size w wr)) (fun _ i _=>n-(intOf i).toNat)
 case atStart=>exact⟨0,none,0,0,[],by omega,rfl,rfl,by unfold Hid;simpa [under] using LfRow.nil w w.heap.size 76,Below.refl _ _⟩
 case round=>
  obtain⟨k,Ax,m,cx,lr,hk,rfl,rfl,HLR,HBW⟩:=hrel
  by_cases hlt:k<n
  ·have hkl:k<ls.length:=by rw[HLN.out];exact hlt
   have hm5:m≤100000:=by
    have h1:=HLR.out.len;have h2:=under_len (ls.take k) key;rw[List.length_take]at h2;have:=HN.out;omega
   obtain⟨b,o,rfl,hb,hc⟩:=LfRd.at_ HL.out (by omega);obtain⟨⟨Ap,np,cp⟩,c0,c1,c2,c3,c4,hpl,hpx⟩:=hc k hkl;dsimp only at c0 hpl hpx;have c0:=(HBW.out.cell (p:=⟨b,o+k*5,none⟩) hb).trans c0;have c1:=(HBW.out.cell (p:=⟨b,o+k*5+1,none⟩) hb).trans c1;have c2:=(HBW.out.cell (p:=⟨b,o+k*5+2,none⟩) hb).trans c2;have c3:=(HBW.out.cell (p:=⟨b,o+k*5+3,none⟩) hb).trans c3;have c4:=(HBW.out.cell (p:=⟨b,o+k*5+4,none⟩) hb).trans c4;have hsuc:=under_succ hkl key;obtain⟨x,hx⟩:∃ x,x=ls[k]:=⟨_,rfl⟩;rw[← hx]at c1 c2 c3 c4 hpl hpx hsuc;obtain⟨p,ea,en,es,ev⟩:=x;dsimp only at c1 c2 c3 c4 hpl hpx;clear hc hx
   cases p with
   | nil=>
    obtain rfl:np=0:=by simpa using hpl.symm
    have HLR2:Hid (LfRow wr w.heap.size 76 Ax m cx (under (ls.take (k+1)) key) lr):=by unfold Hid;rw[hsuc];simpa [under] using HLR.out
    clear hsuc hpx hpl;go_wp2_with fail;go_roundw
    case rel=>exact⟨k+1,Ax,m,cx,lr,by omega,by go_num,rfl,HLR2.out,HBW.out⟩
    case measure=>simp[intOf];omega
   | cons k0 p=>
    obtain⟨nq,hnp⟩:∃ z,np=z+1:=⟨p.length,by rw[← hpl];rfl⟩;subst hnp;have fz:decide ((0:Int)<((nq+1:Nat):Int))=true:=decide_eq_true (by omega);obtain⟨b1,o1,rfl,hb1,_,hcc⟩:=hpx.at_ (by omega);have p0:=(HBW.out.cell (p:=⟨b1,o1,none⟩) hb1).trans (by simpa [strs] using hcc 0 (.string k0) (by simp[strs]));clear hcc
    by_cases hkk:k0=key
    ·subst hkk
     have HSUC:Hid (under (ls.take (k+1)) k0=under (ls.take k) k0++[(p,⟨ea,en,es,ev⟩)]):=by unfold Hid;rw[hsuc];simp[under]
     have hpx1:RX wr (fun b=>(Value.slice Ax m cx).ownBlock≠some b) 1 (if cp=1 then some ⟨b1,o1,none⟩else Option.map (fun a:Addr=>a.add 1) (some (⟨b1,o1,none⟩:Addr))) nq (cp-1) (strs p):=by
      have h1:=RX.cut1 hpx
      have h2:(strs (k0::p)).drop 1=strs p:=by simp[strs]
      rw[h2]at h1;exact (h1.keep HBW.out.size (fun b hb _=>HBW.out.block b hb)).mono (fun b hb _=>fun e=>by have h3:=(HLR.out.own.row.lt b e).1;omega)
     obtain⟨Ac,hAc⟩:∃ z,z=(if cp=1 then some ⟨b1,o1,none⟩else Option.map (fun a:Addr=>a.add 1) (some (⟨b1,o1,none⟩:Addr)):Option Addr):=⟨_,rfl⟩
     have hcut:∀ W,(Instr.slice 44 (.slice (some ⟨b1,o1,none⟩) (nq+1) cp) (some (.int .i64 1)) none none).run Tryz.prog W = .ok (.slice Ac nq (cp-1)) W:=fun W=>by rw[hAc];exact cutS1 _ _ _ W
     rw[← hAc]at hpx1
     have hpl2:p.length=nq:=by simpa using hpl
     have hdr:Below wr.heap.size wr wr.drew:=(Below.refl _ wr).drew;obtain⟨A6,c6,w6,r1,HLR6,hb6,_⟩:=LfRow.push (e:=⟨ea,en,es,ev⟩) (s:=⟨Ac,nq,cp-1⟩) (HLR.out.later hdr) (Nat.le_trans HBW.out.size hdr.size) hpl2 (hpx1.later hdr) (by omega)
     have HLR7:Hid (LfRow w6 w.heap.size 76 A6 (m+1) c6 (under (ls.take (k+1)) k0) (lr++[(⟨Ac,nq,cp-1⟩,⟨ea,en,es,ev⟩)])):=by unfold Hid;rw[HSUC.out];exact HLR6
     have HB7:Hid (Below w.heap.size w w6):=HBW.out.drew.trans hb6;have t0:=(hb6.cell (p:=⟨b,o+k*5,none⟩) hb).trans c0;have t1:=(hb6.cell (p:=⟨b,o+k*5+1,none⟩) hb).trans c1;have t2:=(hb6.cell (p:=⟨b,o+k*5+2,none⟩) hb).trans c2;have t3:=(hb6.cell (p:=⟨b,o+k*5+3,none⟩) hb).trans c3;have t4:=(hb6.cell (p:=⟨b,o+k*5+4,none⟩) hb).trans c4;have HT:=Lib.hid (And.intro t0 (And.intro t1 (And.intro t2 (And.intro t3 t4))));dsimp only at r1;have hdz:wr.drew.heap.size=wr.heap.size:=rfl;rw[hdz]at r1;have Hrun:=Lib.hid r1;clear hAc hpx hpx1 hpl hpl2 hdr r1 HLR6 hb6 hsuc hb1 t0 t1 t2 t3 t4 hdz;go_wp2_with fail;refine wp_region_held_drew (S:=fun W=>W.cell? ⟨b,o+k*5,none⟩=some (.slice (some ⟨b1,o1,none⟩) (nq+1) cp)∧W.cell? ⟨b,o+k*5+1,none⟩=some (.int .i64 ea)∧W.cell? ⟨b,o+k*5+2,none⟩=some (.int .i64 en)∧W.cell? ⟨b,o+k*5+3,none⟩=some (.string es)∧W.cell? ⟨b,o+k*5+4,none⟩=some (.int .i64 ev)) (by kernel_rfl) (by go_keep) (fun hHeld=>?_)
     refine Tk 0 30 ?_;refine Tk 1 31 ?_;refine Tk 2 32 ?_;refine Tk 3 33 ?_;refine Tk 4 34 ?_;refine Tk 5 35 ?_;refine Tk 6 36 ?_;refine Tk 7 37 ?_;refine Tk 8 38 ?_;refine Tk 9 39 ?_;refine Tk 10 40 ?_;refine Tk 11 41 ?_;refine Tk 12 42 ?_;refine Tc 13 (fun K hK=>?_);go_simp;refine Th hK ?_ (fun hHeld2=>?_)
     ·(try dsimp only);go_keep
     clear hK K hHeld;have hHeld:=hHeld2;clear hHeld2;refine Tc 14 (fun K hK=>?_);refine upon_append _ _ _ rfl rfl rfl Hrun.out ?_;clear hHeld;refine Th hK ?_ (fun hHeld=>?_)
     ·exact HT.out
     clear hK K;refine Tk 15 5 ?_;refine wpAnyH_done (by kernel_rfl) ?_ _;clear hHeld;go_wp2_with fail;go_roundw
     case rel=>exact⟨k+1,A6,m+1,c6,_,by omega,by go_num,rfl,HLR7.out,HB7.out⟩
     case measure=>simp[intOf];omega
    ·have f4:(k0.toList==key.toList)=false:=bytes_ne hkk
     have HLR2:Hid (LfRow wr w.heap.size 76 Ax m cx (under (ls.take (k+1)) key) lr):=by unfold Hid;rw[hsuc];simpa [under,hkk] using HLR.out
     clear hsuc hpx hpl hkk;go_wp2_with fail;go_roundw
     case rel=>exact⟨k+1,Ax,m,cx,lr,by omega,by go_num,rfl,HLR2.out,HBW.out⟩
     case measure=>simp[intOf];omega
  ·obtain rfl:k=n:=by omega
   have hrd:=HLR.out.rd;rw[List.take_of_length_le (by rw[HLN.out];omega)]at hrd;obtain rfl:(under ls key).length=m:=hrd.1;have HRD:=Lib.hid hrd;clear hrd;go_wp2_with fail;go_ret;exact⟨Ax,cx,rfl,HRD.out,HBW.out⟩
end Tr
end Go.Proofs.YtjpcechcefhcfaaGreat
