/- Texts of the lower layers, and of layer 9, put together. -/
import Derived.Test.YtjpcechcefhcfaaGreatTreeDots
import Derived.Test.YtjpcechcefhcfaaGreatTreeLeaves
import Derived.Test.YtjpcechcefhcfaaGreatG40
import Derived.Test.YtjpcechcefhcfaaGreatG20
import Derived.Test.YtjpcechcefhcfaaGreatTreeRefRight
namespace Go.Proofs.YtjpcechcefhcfaaGreat
open Go.ChangeShapes Go.WideShapes Go.ChangeAt Go.RowKit
namespace Tr
open Sp Rw
set_option maxRecDepth 100000 in
set_option maxHeartbeats 4000000 in
theorem refdots_own (t:T) (Ae Ak:Option Addr) (ne nk ce ck:Nat) (w:World) (hn:nodes t≤1000) (hr:RdT w w.heap.size t ⟨Ae,ne,ce⟩ ⟨Ak,nk,ck⟩) (hg:Cx.goodD (dl t)) (u:List Cx.S3) (hu:Cx.OfC (dl t) u) (q:Nat) (hq:u.length=q) (hq8:q≤800000) :
  Calls Tryz.prog 22 #[.agg #[.slice Ae ne ce,.slice Ak nk ck]] w fun e w'=>∃ A' c',e = .returned (.slice A' q c')∧Own w' w.heap.size 105 3 A' q c' (spsC u)∧Below w.heap.size w w':=by
 have HR:=Lib.hid hr;have HN:=Lib.hid hn;have HU:=Lib.hid hu;have HQ:=Lib.hid hq;have HG2:=Lib.hid hg;have HQ8:=Lib.hid hq8;clear hr hn hu hq hg hq8;obtain⟨g,hg⟩:∃ g,g=w.heap.size:=⟨_,rfl⟩;have HK:=Lib.hid (tree_box w Ae Ak ne nk ce ck);rw[← hg]at HK;obtain⟨W0,hW0⟩:∃ W,W=w.alloc (.cells #[.slice Ae ne ce,.slice Ak nk ck] 25):=⟨_,rfl⟩;rw[← hW0]at HK;have HG:=Lib.hid hg;have HW0:=Lib.hid hW0;have k0:=HK.out.c0;have k1:=HK.out.c1;clear hg hW0;go_enter Tryz.func22,Tryz.ntmps22;go_wp2_with fail;rw[← HG.out,← HW0.out];refine (leaves_any t Ae Ak ne nk ce ck W0 (by have:=HN.out;omega) (RdT.more HK.out.below.size _ (RdT.below HR.out HK.out.below))).mono ?_;rintro e w1 ⟨Al,cl,rfl,hl,hb1⟩;have HK1:=Lib.hid (HK.out.later hb1);have HLF:=Lib.hid hl
 obtain⟨n,hn⟩:∃ n,n=(leaves t).length:=⟨_,rfl⟩;rw[← hn]at HLF ⊢;have HNN:=Lib.hid hn
 have hn1:n≤1000:=by have:=leaves_nodes t;have:=HN.out;omega
 clear k0 k1 hb1 hl hn;go_wp2_with fail
 go_loopw [3,10] (fun v i wr=>∃ (k:Nat) (Ax:Option Addr) (cx:Nat),k≤n∧i = .int .i64 k∧v = .slice Ax k cx∧Hid (Own wr w1.heap.size 47 2 Ax k cx (((leaves t).take k).map (fun x=>dotE x.2) |>.flatMap Cx.dotC))∧Hid (Gr w1 wr (.slice none 0 0) (.slice Ax k cx))) (fun _ i _=>n-(intOf i).toNat)
 case atStart=>exact⟨0,none,0,by omega,rfl,rfl,⟨World.ownsRow_nil _ _ _ _,by simp⟩,Gr.refl _ _⟩
 case round=>
  obtain⟨k,Ax,cx,hk,rfl,rfl,HO,HGR⟩:=hrel;have hbw:Below w1.heap.size w1 wr:=HGR.out.below (Nat.le_refl _) (fun k hk=>by simp[Value.ownBlock]at hk)
  by_cases hlt:k<n
  ·have hkl:k<(leaves t).length:=by rw[← HNN.out];exact hlt
   obtain⟨b,o,rfl,hb,hc⟩:=LfRd.at_ HLF.out (by omega);obtain⟨s,_,c1,c2,c3,c4,_,_⟩:=hc k hkl;have c1:=(hbw.cell (p:=⟨b,o+k*5+1,none⟩) hb).trans c1;have c2:=(hbw.cell (p:=⟨b,o+k*5+2,none⟩) hb).trans c2
   have HSUC:Hid (((leaves t).take (k+1)).map (fun x=>dotE x.2)=((leaves t).take k).map (fun x=>dotE x.2)++[(((leaves t)[k]).2.a,((leaves t)[k]).2.n)]):=by unfold Hid;rw[List.take_succ_eq_append_getElem hkl,List.map_append];rfl
   obtain⟨ea,hea⟩:∃ x,x=((leaves t)[k]).2.a:=⟨_,rfl⟩;obtain⟨en,hen⟩:∃ x,x=((leaves t)[k]).2.n:=⟨_,rfl⟩;rw[← hea]at c1 HSUC;rw[← hen]at c2 HSUC;obtain⟨A6,c6,w6,r1,r2,r3⟩:=push_dot wr w1.heap.size wr.heap.size rfl HO.out hbw.size (ea,en) (by omega)
   have HO6:Hid (Own w6 w1.heap.size 47 2 A6 (k+1) c6 (((leaves t).take (k+1)).map (fun x=>dotE x.2) |>.flatMap Cx.dotC)):=by unfold Hid;rw[HSUC.out];exact r2
   have HGR6:Hid (Gr w1 w6 (.slice none 0 0) (.slice A6 (k+1) c6)):=HGR.out.trans r3;have Hrun:=Lib.hid r1;clear hc hea hen r1 r2 r3 HSUC c3 c4 hbw;go_wp2_with (at_builtin;refine Lib.wpList_append_run _ rfl _ _ _ _ rfl _ _ rfl rfl _ _ Hrun.out ?_);go_roundw
   case rel=>exact⟨k+1,A6,c6,by omega,by go_num,rfl,HO6.out,HGR6.out⟩
   case measure=>simp[intOf];omega
  ·obtain rfl:k=n:=by omega
   have hrd:Rd wr wr.heap.size 2 Ax k cx ((dl t).flatMap Cx.dotC):=by
    have h1:=HO.out;rw[List.take_of_length_le (by rw[← HNN.out];omega)]at h1;exact h1.rd
   have hof:=Cx.refofC_own (dl t) k Ax cx wr (by rw[dl_len];exact HNN.out.symm) hn1 hrd HG2.out u HU.out q HQ.out HQ8.out;have HOF:=Lib.hid hof;have HB:=Lib.hid (HK1.out.below.trans (hbw.mono HK1.out.below.size));clear hrd hof hbw;go_wp2_with fail;refine HOF.out.mono ?_;rintro e w3 ⟨A3,c3,rfl,hr3,hb3⟩;have HR3:=Lib.hid (hr3.mono HB.out.size);have HB3:=Lib.hid (HB.out.trans (hb3.mono HB.out.size));clear hr3 hb3;go_wp2_with fail;go_ret;exact⟨A3,c3,rfl,HR3.out,HB3.out⟩
theorem refdots_any (t:T) (Ae Ak:Option Addr) (ne nk ce ck:Nat) (w:World) (hn:nodes t≤1000) (hr:RdT w w.heap.size t ⟨Ae,ne,ce⟩ ⟨Ak,nk,ck⟩) (hg:Cx.goodD (dl t)) (u:List Cx.S3) (hu:Cx.OfC (dl t) u) (q:Nat) (hq:u.length=q) (hq8:q≤800000) :
  Calls Tryz.prog 22 #[.agg #[.slice Ae ne ce,.slice Ak nk ck]] w fun e w'=>∃ A' c',e = .returned (.slice A' q c')∧Rd w' w'.heap.size 3 A' q c' (spsC u)∧Below w.heap.size w w':=
 (refdots_own t Ae Ak ne nk ce ck w hn hr hg u hu q hq hq8).mono fun e w' h=>by
  obtain⟨A',c',h1,h2,h3⟩:=h;exact⟨A',c',h1,h2.rd,h3⟩
end Tr
end Go.Proofs.YtjpcechcefhcfaaGreat
namespace Go.Proofs.YtjpcechcefhcfaaGreat
open Go.ChangeShapes Go.WideShapes Go.ChangeAt Go.RowKit
namespace Cs
open Tr Cx Sp Rw Classical
set_option maxRecDepth 100000 in
set_option maxHeartbeats 4000000 in
theorem refkeys_any (t:T) (Ae Ak:Option Addr) (ne nk ce ck:Nat) (w:World) (hn:nodes t≤1000) (hr:RdT w w.heap.size t ⟨Ae,ne,ce⟩ ⟨Ak,nk,ck⟩) :
  Calls Tryz.prog 23 #[.agg #[.slice Ae ne ce,.slice Ak nk ck]] w fun e w'=>∃ (A':Option Addr) (c':Nat),e = .returned (.slice A' nk c')∧Hid (Rd w' w'.heap.size 1 A' nk c' (strs (keysOf t.ks)))∧Below w.heap.size w w':=by
 cases t with
 | mk es ks=>
  obtain⟨hle,hlk⟩:=rd_lens hr;have HR:=Lib.hid hr;have HLK:=Lib.hid hlk
  have hnk:nk≤1000:=by have:=nodes_es es ks;omega
  clear hle hlk hr hn;obtain⟨g,hg⟩:∃ g,g=w.heap.size:=⟨_,rfl⟩;have HK:=Lib.hid (tree_box w Ae Ak ne nk ce ck);rw[← hg]at HK;obtain⟨W0,hW0⟩:∃ W,W=w.alloc (.cells #[.slice Ae ne ce,.slice Ak nk ck] 25):=⟨_,rfl⟩;rw[← hW0]at HK;have HG:=Lib.hid hg;have HW0:=Lib.hid hW0;have k0:=HK.out.c0;have k1:=HK.out.c1;clear hg hW0;go_enter Tryz.func23,Tryz.ntmps23;go_wp2_with fail;rw[← HG.out,← HW0.out];go_wp2_with fail
  go_loopw [3,8] (fun v i wr=>∃ (k:Nat) (Ax:Option Addr) (cx:Nat),k≤nk∧i = .int .i64 k∧v = .slice Ax k cx∧Hid (Own wr W0.heap.size 9 1 Ax k cx (strs (keysOf (ks.take k))))∧Hid (Below W0.heap.size W0 wr)) (fun _ i _=>nk-(intOf i).toNat)
  case atStart=>exact⟨0,none,0,by omega,rfl,rfl,⟨World.ownsRow_nil _ _ _ _,by simp[Tr.strs,keysOf]⟩,Below.refl _ _⟩
  case round=>
   obtain⟨k,Ax,cx,hk,rfl,rfl,HO,HBL⟩:=hrel;clear k0 k1;have k0:=(HBL.out.cell (p:=⟨g,0,none⟩) (World.block_lt_of_cell? W0 _ HK.out.c0)).trans HK.out.c0;have k1:=(HBL.out.cell (p:=⟨g,1,none⟩) (World.block_lt_of_cell? W0 _ HK.out.c1)).trans HK.out.c1
   by_cases hlt:k<nk
   ·have hbw:=HK.out.below.trans (HBL.out.mono HK.out.below.size)
    have hkl:k<ks.length:=by rw[HLK.out];exact hlt
    obtain⟨b,o,rfl,hb,hc⟩:=rd_kid HR.out (by omega);obtain⟨⟨Ae',ne',ce'⟩,⟨Ak',nk',ck'⟩,c0,c1,c2,hkid⟩:=hc k hkl;dsimp only at c0 c1 c2;have c0:=(hbw.cell (p:=⟨b,o+k*3,none⟩) hb).trans c0;have c1:=(hbw.cell (p:=⟨b,o+k*3+1,none⟩) hb).trans c1;have c2:=(hbw.cell (p:=⟨b,o+k*3+2,none⟩) hb).trans c2;obtain⟨key,hkey⟩:∃ key,key=(ks[k]).1:=⟨_,rfl⟩;rw[← hkey]at c0
    have HSUC:Hid (keysOf (ks.take (k+1))=keysOf (ks.take k)++[key]):=by unfold Hid keysOf;rw[List.take_succ_eq_append_getElem hkl,List.map_append,hkey];rfl
    clear hc hkid hkey hbw;obtain⟨A6,c6,w6,r1,r2,r3⟩:=push_str wr W0.heap.size wr.heap.size rfl HO.out HBL.out.size key (by omega)
    have HO6:Hid (Own w6 W0.heap.size 9 1 A6 (k+1) c6 (strs (keysOf (ks.take (k+1))))):=by unfold Hid;rw[HSUC.out];exact r2
    have HBL6:=Lib.hid (HBL.out.trans r3);have Hrun:=Lib.hid r1;clear r1 r2 r3;go_wp2_with (at_builtin;refine Lib.wpList_append_run _ rfl _ _ _ _ rfl _ _ rfl rfl _ _ Hrun.out ?_);go_roundw
    case rel=>exact⟨k+1,A6,c6,by omega,by go_num,rfl,HO6.out,HBL6.out⟩
    case measure=>simp[intOf];omega
   ·obtain rfl:k=nk:=by omega
    have HRD:Hid (Rd wr wr.heap.size 1 Ax k cx (strs (keysOf ks))):=by
     have h1:=HO.out;rw[List.take_of_length_le (by rw[HLK.out];exact Nat.le_refl _)]at h1;exact h1.rd
    have HB:=Lib.hid (HK.out.below.trans (HBL.out.mono HK.out.below.size));go_wp2_with fail;go_ret;exact⟨Ax,cx,rfl,HRD.out,HB.out⟩
theorem refkeyb_any (s:ByteArray) (w:World) (z:Bool) (hz:keyB s=z):Calls Tryz.prog 14 #[.string s] w fun e w'=>e = .returned (.bool z)∧Below w.heap.size w w':=by
 refine (refkey_any s w).mono ?_;rw[hz];rintro e v ⟨rfl,rfl⟩;exact⟨rfl,Below.refl _ _⟩
end Cs
end Go.Proofs.YtjpcechcefhcfaaGreat
