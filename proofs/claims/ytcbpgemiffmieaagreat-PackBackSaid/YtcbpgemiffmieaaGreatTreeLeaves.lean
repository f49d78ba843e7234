/- A tree's leaves: the document's. -/
import Derived.Test.YtcbpgemiffmieaaGreatG00
import Derived.Test.YtcbpgemiffmieaaGreatG10
set_option maxRecDepth 100000
set_option maxHeartbeats 4000000
namespace Go.Proofs.YtcbpgemiffmieaaGreat
open Go.ChangeShapes Go.WideShapes Go.ChangeAt Go.RowKit
namespace Tr
open Sp Rw
theorem own_emptyS (X:World) (base p0:Nat) (h0:X.heap[p0]?=some (.cells #[] 9 (0,0))) (hb:base≤p0):X.ownsRow base 9 1 (.slice (some ⟨p0,0,none⟩) 0 0) 0 []:=
 ⟨rfl,.inr ⟨p0,0,#[],rfl,hb,h0,Nat.le_refl _,by unfold maxLen;omega,rfl,rfl⟩⟩
theorem mk_path (X:World) (base p0:Nat) (h0:X.heap[p0]?=some (.cells #[] 9 (0,0))) (hb:base≤p0) (hbs:base≤X.heap.size) {B n c:Nat} {A:Option Addr} {p:List ByteArray} (hr:Rd X B 1 A n c (strs p)) (hn:n≤800000) :
  ∃ A3 c3 w3,(Builtin.append_ #[38,38] 38 #[.slice (some ⟨p0,0,none⟩) 0 0,.slice A n c]).run Tryz.prog X = .ok (.slice A3 n c3) w3∧Own w3 base 9 1 A3 n c3 (strs p)∧Below base X w3∧∀ b,b<X.heap.size→b≠p0→w3.heap[b]?=X.heap[b]?:=by
 obtain⟨i0,hi0,hz0,hz1,hz2⟩:=info_of infoS;obtain⟨v',w',r1,r2,r3,_⟩:=run_app (P:=Tryz.prog) X base 38 38 9 i0 _ 1 16 Tryz.underlying38 hi0 hz0 hz1 hz2 rfl (by omega) (own_emptyS X base p0 h0 hb) hr (by omega) (by omega) hbs;rw[List.nil_append,Nat.zero_add]at r2;obtain⟨A',c',rfl,ho⟩:=Own.of_row r2 (strs_one p);refine⟨A',c',w',r1,ho,(Below.refl base X).grown r3 hbs (fun k hk=>?_),fun b hb hne=>r3.block b hb (fun e=>?_)⟩
 ·simp[Value.ownBlock]at hk;omega
 ·simp[Value.ownBlock]at e;exact hne e
theorem add_key (Y:World) (base:Nat) {A3:Option Addr} {n c3:Nat} {p:List ByteArray} (h:Own Y base 9 1 A3 n c3 (strs p)) (hbs:base≤Y.heap.size) {B:Nat} {A:Option Addr} {c:Nat} {key:ByteArray} (hr:Rd Y B 1 A 1 c (strs [key])) (hn:n≤800000) :
  ∃ A4 c4 w4,(Builtin.append_ #[38,38] 38 #[.slice A3 n c3,.slice A 1 c]).run Tryz.prog Y = .ok (.slice A4 (n+1) c4) w4∧Own w4 base 9 1 A4 (n+1) c4 (strs (p++[key]))∧Below base Y w4:=by
 obtain⟨i0,hi0,hz0,hz1,hz2⟩:=info_of infoS;obtain⟨v',w',r1,r2,r3,_⟩:=run_app (P:=Tryz.prog) Y base 38 38 9 i0 _ 1 16 Tryz.underlying38 hi0 hz0 hz1 hz2 rfl (by omega) h.row hr (by omega) (by omega) hbs
 have e:strs p++strs [key]=strs (p++[key]):=by simp[strs]
 rw[e]at r2;obtain⟨A',c',rfl,ho⟩:=Own.of_row r2 (strs_one _);exact⟨A',c',w',r1,ho,(Below.refl base Y).grown r3 hbs (fun k hk=>(h.row.lt k hk).1)⟩
theorem rd_key (X:World) (k0 B:Nat) (hB:k0<B) (key:ByteArray) (h:X.heap[k0]?=some (.cells #[.string key] 9 (0,0))):Rd X B 1 (some ⟨k0,0,none⟩) 1 1 (strs [key]):=
 ⟨rfl,Nat.le_refl _,strs_one _,fun _=>⟨_,_,rfl,hB,fun j u hu=>by
  rw[Nat.zero_add,cell_of_row X k0 j _ _ (0,0) h]
  simpa [strs] using hu⟩⟩
def pre (p:List ByteArray) (l:List Lf):List Lf:=l.map fun x=>(p++x.1,x.2)
def kidsL (p:List ByteArray) (ks:List (ByteArray×T)) (k:Nat):List Lf:=(ks.take k).flatMap fun kd=>pre (p++[kd.1]) (leaves kd.2)
theorem kidsL_succ (p:List ByteArray) {ks:List (ByteArray×T)} {k:Nat} (h:k<ks.length):kidsL p ks (k+1)=kidsL p ks k++pre (p++[(ks[k]).1]) (leaves (ks[k]).2):=by
 unfold kidsL;rw[List.take_succ_eq_append_getElem h,List.flatMap_append,List.flatMap_cons,List.flatMap_nil,List.append_nil]
theorem kidsL_all (p:List ByteArray) (ks:List (ByteArray×T)) {k:Nat} (h:ks.length=k):kidsL p ks k=pre p (below ks):=by
 unfold kidsL pre below;rw[List.take_of_length_le (by omega),List.map_flatMap]
 congr 1
 funext kd
 rw[List.map_map];refine List.map_congr_left fun x _=>?_;simp
theorem kidsL_le (p:List ByteArray) (ks:List (ByteArray×T)) (k:Nat):(kidsL p ks k).length≤(below ks).length:=by
 have h:=kidsL_all p ks rfl
 have:(kidsL p ks k).length≤(kidsL p ks ks.length).length:=by
  unfold kidsL;rw[List.take_length]
  conv=>rhs;rw[← List.take_append_drop k ks,List.flatMap_append,List.length_append]
  omega
 rw[h]at this;unfold pre at this
 rwa [List.length_map]at this
theorem pre_leaves (p:List ByteArray) (es:List E) (ks:List (ByteArray×T)):pre p (leaves (.mk es ks))=es.map (fun e=>(p,e))++pre p (below ks):=by
 rw[leaves_mk];unfold pre;rw[List.map_append,List.map_map]
 congr 1
 refine List.map_congr_left fun e _=>?_;simp
theorem RX.mono' {w w':World} {ok ok':Nat→Prop} {sz n c:Nat} {A:Option Addr} {xs:List Value} (h:RX w' ok sz A n c xs) (h0:RX w ok sz A n c xs) (ho:∀ b,ok b→b<w.heap.size→ok' b):RX w' ok' sz A n c xs:=
 ⟨h.len,h.cap,h.one,fun hn=>by
  obtain⟨b,o,e,h1,hb,hc⟩:=h.at_ hn;obtain⟨b0,o0,e0,h10,hb0,_⟩:=h0.at_ hn;rw[e]at e0;injection e0 with e0;injection e0 with e1;subst e1
  exact⟨b,o,e,ho b h10 hb0,hb,hc⟩⟩
theorem below_any:∀ (t:T) (Ae Ak:Option Addr) (ne nk ce ck:Nat) (p:List ByteArray) (Ap:Option Addr) (np cp:Nat) (ok:Nat→Prop) (w:World),np+nodes t≤100000→RdT w w.heap.size t ⟨Ae,ne,ce⟩ ⟨Ak,nk,ck⟩→p.length=np→RX w ok 1 Ap np cp (strs p)→(∀ b,w.heap.size≤b→ok b) →
  Calls Tryz.prog 124 #[.agg #[.slice Ae ne ce,.slice Ak nk ck],.slice Ap np cp] w fun e w'=>∃ A m c lr,e = .returned (.slice A m c)∧LfRow w' w.heap.size 144 A m c (pre p (leaves t)) lr∧Paths w' (fun b=>(Value.slice A m c).ownBlock≠some b∧ok b) (pre p (leaves t)) lr∧Below w.heap.size w w':=by
 intro t
 induction t using T.ind with
 | h es ks ih=>
  intro Ae Ak ne nk ce ck p Ap np cp ok w hn hr hpl hp hok;obtain⟨hle,hlk⟩:=rd_lens hr;have HR:=Lib.hid hr;have HLE:=Lib.hid hle;have HLK:=Lib.hid hlk;clear hle hlk hr;have IH:=Lib.hid ih;have HN:=Lib.hid hn
  have hne5:ne≤100000:=by have:=nodes_es es ks;have:=HLE.out;omega
  have hnk5:nk≤100000:=by have:=nodes_es es ks;have:=HLK.out;omega
  have HTOT:Hid (ne+(below ks).length≤100000):=by
   have h1:=leaves_nodes (.mk es ks);rw[leaves_mk,List.length_append,List.length_map,HLE.out]at h1;unfold Hid;omega
  have HPL:=Lib.hid hpl;have HP:=Lib.hid hp;have HOK:=Lib.hid hok
  have hnp5:np≤100000:=by omega
  clear ih hn hpl hp hok;obtain⟨g,hg⟩:∃ g,g=w.heap.size:=⟨_,rfl⟩;have HK:=Lib.hid (tree_box w Ae Ak ne nk ce ck);rw[← hg]at HK;obtain⟨W0,hW0⟩:∃ W,W=w.alloc (.cells #[.slice Ae ne ce,.slice Ak nk ck] 35):=⟨_,rfl⟩;rw[← hW0]at HK;have HG:=Lib.hid hg;have HW0:=Lib.hid hW0;have k0:=HK.out.c0;have k1:=HK.out.c1;clear hg hW0;go_enter Tryz.func124,Tryz.ntmps124;go_wp2_with fail;rw[← HG.out,← HW0.out];go_wp2_with fail
  go_loopw [5,12] (fun s i wr=>∃ (k:Nat) (Ax:Option Addr) (cx:Nat) (lr:List (SV×E)),k≤ne∧i = .int .i64 k∧s = .slice Ax k cx∧Hid (LfRow wr W0.heap.size 144 Ax k cx ((es.take k).map fun e=>(p,e)) lr)∧Hid (Paths wr (fun b=>(Value.slice Ax k cx).ownBlock≠some b∧ok b) ((es.take k).map fun e=>(p,e)) lr)∧Hid (Below W0.heap.size W0 wr)) (fun _ i _=>ne-(intOf i).toNat)
  case atStart=>exact⟨0,none,0,[],by omega,rfl,rfl,LfRow.nil _ _ _,Paths.nil _ _,Below.refl _ _⟩
  case round=>
   obtain⟨k,Ax,cx,lr,hk,rfl,rfl,HLR,HPS,HBW⟩:=hrel;have HKW:=Lib.hid (HK.out.later HBW.out);clear k0 k1;have k0:=HKW.out.c0;have k1:=HKW.out.c1
   by_cases hlt:k<ne
   ·have hkl:k<es.length:=by rw[HLE.out];exact hlt
    obtain⟨b,o,rfl,hb,hc⟩:=rd_ent HR.out (by omega);obtain⟨c0,c1,c2,c3⟩:=hc k hkl;have c0:=(HKW.out.below.cell (p:=⟨b,o+k*4,none⟩) hb).trans c0;have c1:=(HKW.out.below.cell (p:=⟨b,o+k*4+1,none⟩) hb).trans c1;have c2:=(HKW.out.below.cell (p:=⟨b,o+k*4+2,none⟩) hb).trans c2;have c3:=(HKW.out.below.cell (p:=⟨b,o+k*4+3,none⟩) hb).trans c3;obtain⟨e,he⟩:∃ e,e=es[k]:=⟨_,rfl⟩
    have HTK:Hid ((es.take (k+1)).map (fun e=>(p,e))=(es.take k).map (fun e=>(p,e))++[(p,e)]):=by unfold Hid;rw[List.take_succ_eq_append_getElem hkl,List.map_append,he];rfl
    rw[← he]at c0 c1 c2 c3
    have hpx:RX wr (fun b=>(Value.slice Ax k cx).ownBlock≠some b∧ok b) 1 Ap np cp (strs p):=by
     refine (HP.out.keep HKW.out.below.size (fun b _ hlt=>HKW.out.below.block b hlt)).mono' HP.out (fun b hb1 hlt=>⟨fun e=>?_,hb1⟩);have h1:=(HLR.out.own.row.lt b e).1;have h2:=HW0.out
     have h3:W0.heap.size=w.heap.size+1:=by rw[h2];simp
     omega
    obtain⟨A6,c6,w6,r1,HLR6,hb6,hto⟩:=LfRow.push (e:=e) (s:=⟨Ap,np,cp⟩) HLR.out HBW.out.size HPL.out (hpx.mono fun b hb _=>hb.1) (by omega)
    have HLR6':Hid (LfRow w6 W0.heap.size 144 A6 (k+1) c6 ((es.take (k+1)).map fun e=>(p,e)) (lr++[(⟨Ap,np,cp⟩,e)])):=by unfold Hid;rw[HTK.out];exact HLR6
    have HPS6:Hid (Paths w6 (fun b=>(Value.slice A6 (k+1) c6).ownBlock≠some b∧ok b) ((es.take (k+1)).map fun e=>(p,e)) (lr++[(⟨Ap,np,cp⟩,e)])):=by unfold Hid;rw[HTK.out];exact hto ok _ _ (HPS.out.app (Paths.one HPL.out hpx))
    have HBW6:=Lib.hid (HBW.out.trans hb6);obtain⟨ea,en,es',ev⟩:=e;dsimp only at c0 c1 c2 c3 r1;have Hrun:=Lib.hid r1;clear hc he hpx HLR6 hto hb6 r1;go_wp2_with (at_builtin;refine Lib.wpList_append_run _ rfl _ _ _ _ rfl _ _ rfl rfl _ _ Hrun.out ?_);go_roundw
    case rel=>exact⟨k+1,A6,c6,_,by omega,by go_num,rfl,HLR6'.out,HPS6.out,HBW6.out⟩
    case measure=>simp[intOf];omega
   ·obtain rfl:k=ne:=by omega
    have hall:es.take k=es:=List.take_of_length_le (by rw[HLE.out];omega);have HLR0:=HLR.out;have HPS0:=HPS.out;rw[hall]at HLR0 HPS0;have HL1:=Lib.hid HLR0;have HP1:=Lib.hid HPS0;clear hall HLR0 HPS0 HLR HPS;go_wp2_with fail
    go_loopw [5,29] (fun s i wr=>∃ (j:Nat) (Ax:Option Addr) (m cx:Nat) (lr:List (SV×E)),j≤nk∧i = .int .i64 j∧s = .slice Ax m cx∧Hid (LfRow wr W0.heap.size 144 Ax m cx (es.map (fun e=>(p,e))++kidsL p ks j) lr)∧Hid (Paths wr (fun b=>(Value.slice Ax m cx).ownBlock≠some b∧ok b) (es.map (fun e=>(p,e))++kidsL p ks j) lr)∧Hid (Below W0.heap.size W0 wr)) (fun _ i _=>nk-(intOf i).toNat)
    case atStart=>exact⟨0,Ax,k,cx,lr,by omega,rfl,rfl,by unfold Hid;simpa [kidsL] using HL1.out,by unfold Hid;simpa [kidsL] using HP1.out,HBW.out⟩
    case round=>
     obtain⟨j,Ax,m,cx,lr,hj,rfl,rfl,HLR,HPS,HBW⟩:=hrel;have HKW:=Lib.hid (HK.out.later HBW.out);clear k0 k1;have k0:=HKW.out.c0;have k1:=HKW.out.c1
     by_cases hlt:j<nk
     ·have hkl:j<ks.length:=by rw[HLK.out];exact hlt
      obtain⟨b,o,rfl,hb,hc⟩:=rd_kid HR.out (by omega);obtain⟨⟨Ae',ne',ce'⟩,⟨Ak',nk',ck'⟩,c0,c1,c2,hkid⟩:=hc j hkl;dsimp only at c0 c1 c2;have c0:=(HKW.out.below.cell (p:=⟨b,o+j*3,none⟩) hb).trans c0;have c1:=(HKW.out.below.cell (p:=⟨b,o+j*3+1,none⟩) hb).trans c1;have c2:=(HKW.out.below.cell (p:=⟨b,o+j*3+2,none⟩) hb).trans c2;obtain⟨key,hkey⟩:∃ key,key=(ks[j]).1:=⟨_,rfl⟩;rw[← hkey]at c0;have hsucc:=kidsL_succ p hkl;rw[← hkey]at hsucc;have HSUC:=Lib.hid hsucc;have hbw:b<wr.heap.size:=World.block_lt_of_cell? wr _ c0;have hgw:g<wr.heap.size:=World.block_lt_of_cell? wr _ k0
      have hm5:m≤100000:=by
       have h1:=HLR.out.len;rw[List.length_append,List.length_map,HLE.out]at h1;have h2:=kidsL_le p ks j;have h3:=HTOT.out;omega
      have hpd:Rd wr wr.heap.size 1 Ap np cp (strs p):=(HP.out.rd.below HKW.out.below).more HKW.out.below.size
      -- the three orders
      have hbE:Below wr.heap.size wr (wr.drew.alloc (.cells #[] 9)):=((Below.refl _ wr).drew).alloc (Nat.le_refl _) _;have hbK:Below wr.heap.size wr (wr.drew.alloc (.cells #[.string key] 9)):=((Below.refl _ wr).drew).alloc (Nat.le_refl _) _;have hbEK:Below wr.heap.size wr ((wr.drew.alloc (.cells #[] 9)).alloc (.cells #[.string key] 9)):=hbE.alloc (by have h:wr.drew.heap.size=wr.heap.size:=rfl;first | (simp;done) | (simp;omega) | (simp[h];done) | (simp[h];omega)) _;have hbKE:Below wr.heap.size wr ((wr.drew.alloc (.cells #[.string key] 9)).alloc (.cells #[] 9)):=hbK.alloc (by have h:wr.drew.heap.size=wr.heap.size:=rfl;first | (simp;done) | (simp;omega) | (simp[h];done) | (simp[h];omega)) _;have hdz:wr.drew.heap.size=wr.heap.size:=rfl;obtain⟨A3A,c3A,w3A,r3A,ho3A,hb3A,hk3A⟩:=mk_path (wr.drew.alloc (.cells #[] 9)) wr.heap.size (wr.heap.size) (by have h:=heap_alloc_new wr.drew (.cells #[] 9);simpa [hdz] using h) (by omega) (by first | (simp[hdz];done) | (simp[hdz];omega)) ((hpd.below hbE).more hbE.size) (by omega)
      have hbw3A:Below wr.heap.size wr w3A:=hbE.trans hb3A;have halA:Below w3A.heap.size w3A (w3A.alloc (.cells #[.string key] 9)):=(Below.refl _ _).alloc (Nat.le_refl _) _;obtain⟨A4A,c4A,w4A,r4A,ho4A,hb4A⟩:=add_key (w3A.alloc (.cells #[.string key] 9)) wr.heap.size (own_later ho3A halA) (Nat.le_trans hbw3A.size halA.size) (rd_key _ w3A.heap.size (w3A.heap.size+1) (by omega) key (heap_alloc_new _ _)) (by omega);have hbw4A:Below wr.heap.size wr w4A:=hbw3A.trans ((halA.mono hbw3A.size).trans hb4A);have HX3A:=Lib.hid r3A;have HX4A:=Lib.hid r4A;have HO4A:=Lib.hid ho4A;have HB4A:=Lib.hid hbw4A;have d0A:=(hbw3A.cell (p:=⟨b,o+j*3,none⟩) hbw).trans c0;have d1A:=(hbw3A.cell (p:=⟨g,1,none⟩) hgw).trans k1;have e0A:=(hbw4A.cell (p:=⟨b,o+j*3,none⟩) hbw).trans c0;have e1A:=(hbw4A.cell (p:=⟨g,1,none⟩) hgw).trans k1
      have HDA:=Lib.hid (And.intro d0A d1A);have HEA:=Lib.hid (And.intro e0A e1A);clear r3A ho3A hb3A hk3A hbw3A r4A ho4A hb4A hbw4A d0A d1A e0A e1A halA;obtain⟨A3B,c3B,w3B,r3B,ho3B,hb3B,hk3B⟩:=mk_path ((wr.drew.alloc (.cells #[] 9)).alloc (.cells #[.string key] 9)) wr.heap.size (wr.heap.size) (by have h:=(heap_alloc_old (wr.drew.alloc (.cells #[] 9)) (.cells #[.string key] 9) (show wr.heap.size<_ by simp[hdz])).trans (heap_alloc_new wr.drew (.cells #[] 9));simpa [hdz] using h) (by omega) (by first | (simp[hdz];done) | (simp[hdz];omega)) ((hpd.below hbEK).more hbEK.size) (by omega);have hbw3B:Below wr.heap.size wr w3B:=hbEK.trans hb3B;obtain⟨A4B,c4B,w4B,r4B,ho4B,hb4B⟩:=add_key w3B wr.heap.size ho3B hbw3B.size (rd_key _ (wr.heap.size+1) (wr.heap.size+1+1) (by omega) key ((hk3B (wr.heap.size+1) (by simp[hdz];try omega) (by omega)).trans (by first | (have h:=heap_alloc_new (wr.drew.alloc (.cells #[] 9)) (.cells #[.string key] 9);simpa [hdz] using h) | (have h:=(heap_alloc_old (wr.drew.alloc (.cells #[.string key] 9)) (.cells #[] 9) (show wr.heap.size<_ by simp[hdz])).trans (heap_alloc_new wr.drew (.cells #[.string key] 9));simpa [hdz] using h)))) (by omega)
      have hbw4B:Below wr.heap.size wr w4B:=hbw3B.trans hb4B;have HX3B:=Lib.hid r3B;have HX4B:=Lib.hid r4B;have HO4B:=Lib.hid ho4B;have HB4B:=Lib.hid hbw4B;have d0B:=(hbw3B.cell (p:=⟨b,o+j*3,none⟩) hbw).trans c0;have d1B:=(hbw3B.cell (p:=⟨g,1,none⟩) hgw).trans k1;have e0B:=(hbw4B.cell (p:=⟨b,o+j*3,none⟩) hbw).trans c0;have e1B:=(hbw4B.cell (p:=⟨g,1,none⟩) hgw).trans k1;have HDB:=Lib.hid (And.intro d0B d1B);have HEB:=Lib.hid (And.intro e0B e1B);clear r3B ho3B hb3B hk3B hbw3B r4B ho4B hb4B hbw4B d0B d1B e0B e1B;obtain⟨A3C,c3C,w3C,r3C,ho3C,hb3C,hk3C⟩:=mk_path ((wr.drew.alloc (.cells #[.string key] 9)).alloc (.cells #[] 9)) wr.heap.size (wr.heap.size+1) (by have h:=heap_alloc_new (wr.drew.alloc (.cells #[.string key] 9)) (.cells #[] 9);simpa [hdz] using h) (by omega) (by first | (simp[hdz];done) | (simp[hdz];omega)) ((hpd.below hbKE).more hbKE.size) (by omega)
      have hbw3C:Below wr.heap.size wr w3C:=hbKE.trans hb3C;obtain⟨A4C,c4C,w4C,r4C,ho4C,hb4C⟩:=add_key w3C wr.heap.size ho3C hbw3C.size (rd_key _ (wr.heap.size) (wr.heap.size+1) (by omega) key ((hk3C (wr.heap.size) (by simp[hdz];try omega) (by omega)).trans (by first | (have h:=heap_alloc_new (wr.drew.alloc (.cells #[] 9)) (.cells #[.string key] 9);simpa [hdz] using h) | (have h:=(heap_alloc_old (wr.drew.alloc (.cells #[.string key] 9)) (.cells #[] 9) (show wr.heap.size<_ by simp[hdz])).trans (heap_alloc_new wr.drew (.cells #[.string key] 9));simpa [hdz] using h)))) (by omega);have hbw4C:Below wr.heap.size wr w4C:=hbw3C.trans hb4C;have HX3C:=Lib.hid r3C;have HX4C:=Lib.hid r4C;have HO4C:=Lib.hid ho4C;have HB4C:=Lib.hid hbw4C;have d0C:=(hbw3C.cell (p:=⟨b,o+j*3,none⟩) hbw).trans c0;have d1C:=(hbw3C.cell (p:=⟨g,1,none⟩) hgw).trans k1
      have e0C:=(hbw4C.cell (p:=⟨b,o+j*3,none⟩) hbw).trans c0;have e1C:=(hbw4C.cell (p:=⟨g,1,none⟩) hgw).trans k1;have HDC:=Lib.hid (And.intro d0C d1C);have HEC:=Lib.hid (And.intro e0C e1C);clear r3C ho3C hb3C hk3C hbw3C r4C ho4C hb4C hbw4C d0C d1C e0C e1C;have HKID:=Lib.hid hkid;clear hc hkey hsucc hpd hkid hbE hbK hbEK hbKE;go_wp2_with fail;refine wp_region_held_drew (S:=fun W=>W.cell? ⟨b,o+j*3,none⟩=some (.string key)∧W.cell? ⟨g,1,none⟩=some (.slice (some ⟨b,o,none⟩) nk ck)) (by kernel_rfl) (by go_keep) (fun hHeld=>?_);refine Tk 1 33 ?_;refine Tk 3 35 ?_;refine Tk 4 36 ?_;refine Tk 5 37 ?_;refine Tk 6 38 ?_;refine Tk 7 39 ?_;refine Tk 8 40 ?_;refine wpAnyH_ready (rs:=[0,9]) (by kernel_rfl) (by simp) ?_;refine AllReadyH.cons (o:=⟨some 32,_,_,_,_,_⟩) rfl (fun K hK=>?_) (AllReadyH.cons (o:=⟨some 41,_,_,_,_,_⟩) rfl (fun K hK=>?_) (AllReadyH.nil))
      ·go_simp
       refine Th hK ?_ (fun hHeld2=>?_)
       ·(try dsimp only);go_keep
       clear hK K hHeld;have hHeld:=hHeld2;clear hHeld2;refine wpAnyH_ready (rs:=[2,9]) (by kernel_rfl) (by simp) ?_;refine AllReadyH.cons (o:=⟨some 34,_,_,_,_,_⟩) rfl (fun K hK=>?_) (AllReadyH.cons (o:=⟨some 41,_,_,_,_,_⟩) rfl (fun K hK=>?_) (AllReadyH.nil))
       ·refine upon_append _ _ _ rfl rfl rfl HX3A.out ?_
        clear hHeld;refine Th hK ?_ (fun hHeld=>?_)
        ·exact HDA.out
        clear hK K;have d0:=HDA.out.1;have d1:=HDA.out.2;refine Tc 9 (fun K hK=>?_);go_simp;refine Th hK ?_ (fun hHeld2=>?_)
        ·(try dsimp only);go_keep
        clear hK K hHeld;have hHeld:=hHeld2;clear hHeld2;refine Tc 10 (fun K hK=>?_);refine upon_append _ _ _ rfl rfl rfl HX4A.out ?_;clear hHeld;refine Th hK ?_ (fun hHeld=>?_)
        ·exact HEA.out
        clear hK K;refine Tk 11 8 ?_;refine wpAnyH_done (by kernel_rfl) ?_ _;have e1:=HEA.out.2;have e2:=(HB4A.out.cell (p:=⟨b,o+j*3+1,none⟩) hbw).trans c1;have e3:=(HB4A.out.cell (p:=⟨b,o+j*3+2,none⟩) hbw).trans c2;have hsz:=HB4A.out.size
        have hp':RX w4A (fun b=>(Value.slice Ax m cx).ownBlock≠some b∧ok b) 1 A4A (np+1) c4A (strs (p++[key])):=by
         refine⟨HO4A.out.rd.len,HO4A.out.rd.cap,strs_one _,fun hn=>?_⟩;obtain⟨q,eq,q1,q2,_,q4⟩:=Sp.Own.place HO4A.out hn;refine⟨q,0,eq,⟨fun e=>?_,HOK.out q (by have:=HKW.out.below.size;omega)⟩,q2,fun j u hu=>by rw[Nat.zero_add];exact q4 j u hu⟩;have:=(HLR.out.own.row.lt q e).2;omega
        have hbw4:=HKW.out.below.trans (HB4A.out.mono HKW.out.below.size);have hcall:=IH.out _ (List.getElem_mem hkl) Ae' Ak' ne' nk' ce' ck' (p++[key]) A4A (np+1) c4A (fun b=>(Value.slice Ax m cx).ownBlock≠some b∧ok b) w4A (by have h1:=HN.out;have h2:=le_sum (f:=fun k:ByteArray×T=>nodes k.2) (List.getElem_mem hkl);rw[nodes_mk]at h1;omega) (RdT.more hbw4.size _ (RdT.below HKID.out hbw4)) (by rw[List.length_append,HPL.out];rfl) hp' (fun b hb=>⟨fun e=>by have:=(HLR.out.own.row.lt b e).2;omega,HOK.out b (by have:=HKW.out.below.size;omega)⟩);have HCALL:=Lib.hid hcall;have HLR4:=Lib.hid (HLR.out.later HB4A.out);have HPS4:=Lib.hid (HPS.out.later HB4A.out);have HBT:=Lib.hid (HBW.out.trans (HB4A.out.mono HBW.out.size));clear hp' hcall hbw4 hHeld d0 d1;go_wp2_with fail;refine HCALL.out.mono ?_;rintro e w5 ⟨A6,m6,c6,lr6,rfl,hlr6,hps6,hb5⟩
        have HLR5:=HLR4.out.later hb5;have HPS5:=HPS4.out.later hb5;have hbs5:W0.heap.size≤w5.heap.size:=Nat.le_trans HBT.out.size hb5.size
        have hm65:m6≤100000:=by
         have h1:=hlr6.len;have h2:=leaves_nodes (ks[j]).2;have h3:=nodes_kid (es:=es) (List.getElem_mem hkl);have h4:=HN.out;unfold pre at h1;rw[List.length_map]at h1;omega
        obtain⟨A7,c7,w7,r7,HLR7,hb7,hto⟩:=HLR5.app Tryz.underlying141 infoL rfl (by omega) hbs5 hlr6.own.rd hlr6.len (hps6.mono fun b hb _=>hb.2.1) (by omega)
        have HLR8:Hid (LfRow w7 W0.heap.size 144 A7 (m+m6) c7 (es.map (fun e=>(p,e))++kidsL p ks (j+1)) (lr++lr6)):=by unfold Hid;rw[HSUC.out,← List.append_assoc];exact HLR7
        have HPS8:Hid (Paths w7 (fun b=>(Value.slice A7 (m+m6) c7).ownBlock≠some b∧ok b) (es.map (fun e=>(p,e))++kidsL p ks (j+1)) (lr++lr6)):=by unfold Hid;rw[HSUC.out,← List.append_assoc];exact hto ok _ _ (HPS5.app (hps6.mono fun b hb _=>hb.2))
        have HBT8:=Lib.hid ((HBT.out.trans (hb5.mono HBT.out.size)).trans hb7);have Hrun7:=Lib.hid r7;clear e1 e2 e3 hsz hlr6 hps6 hb5 HLR5 HPS5 hbs5 r7 HLR7 hb7 hto;go_wp2_with (at_builtin;refine Lib.wpList_append_run _ rfl _ _ _ _ rfl _ _ rfl rfl _ _ Hrun7.out ?_);go_roundw
        case rel=>exact⟨j+1,A7,m+m6,c7,_,by omega,by go_num,rfl,HLR8.out,HPS8.out,HBT8.out⟩
        case measure=>simp[intOf];omega
       ·go_simp
        refine Th hK ?_ (fun hHeld2=>?_)
        ·(try dsimp only);go_keep
        clear hK K hHeld;have hHeld:=hHeld2;clear hHeld2;refine Tc 2 (fun K hK=>?_);refine upon_append _ _ _ rfl rfl rfl HX3B.out ?_;clear hHeld;refine Th hK ?_ (fun hHeld=>?_)
        ·exact HDB.out
        clear hK K;have d0:=HDB.out.1;have d1:=HDB.out.2;refine Tc 10 (fun K hK=>?_);refine upon_append _ _ _ rfl rfl rfl HX4B.out ?_;clear hHeld;refine Th hK ?_ (fun hHeld=>?_)
        ·exact HEB.out
        clear hK K;refine Tk 11 8 ?_;refine wpAnyH_done (by kernel_rfl) ?_ _;have e1:=HEB.out.2;have e2:=(HB4B.out.cell (p:=⟨b,o+j*3+1,none⟩) hbw).trans c1;have e3:=(HB4B.out.cell (p:=⟨b,o+j*3+2,none⟩) hbw).trans c2;have hsz:=HB4B.out.size
        have hp':RX w4B (fun b=>(Value.slice Ax m cx).ownBlock≠some b∧ok b) 1 A4B (np+1) c4B (strs (p++[key])):=by
         refine⟨HO4B.out.rd.len,HO4B.out.rd.cap,strs_one _,fun hn=>?_⟩;obtain⟨q,eq,q1,q2,_,q4⟩:=Sp.Own.place HO4B.out hn;refine⟨q,0,eq,⟨fun e=>?_,HOK.out q (by have:=HKW.out.below.size;omega)⟩,q2,fun j u hu=>by rw[Nat.zero_add];exact q4 j u hu⟩;have:=(HLR.out.own.row.lt q e).2;omega
        have hbw4:=HKW.out.below.trans (HB4B.out.mono HKW.out.below.size);have hcall:=IH.out _ (List.getElem_mem hkl) Ae' Ak' ne' nk' ce' ck' (p++[key]) A4B (np+1) c4B (fun b=>(Value.slice Ax m cx).ownBlock≠some b∧ok b) w4B (by have h1:=HN.out;have h2:=le_sum (f:=fun k:ByteArray×T=>nodes k.2) (List.getElem_mem hkl);rw[nodes_mk]at h1;omega) (RdT.more hbw4.size _ (RdT.below HKID.out hbw4)) (by rw[List.length_append,HPL.out];rfl) hp' (fun b hb=>⟨fun e=>by have:=(HLR.out.own.row.lt b e).2;omega,HOK.out b (by have:=HKW.out.below.size;omega)⟩);have HCALL:=Lib.hid hcall;have HLR4:=Lib.hid (HLR.out.later HB4B.out);have HPS4:=Lib.hid (HPS.out.later HB4B.out);have HBT:=Lib.hid (HBW.out.trans (HB4B.out.mono HBW.out.size));clear hp' hcall hbw4 hHeld d0 d1;go_wp2_with fail;refine HCALL.out.mono ?_;rintro e w5 ⟨A6,m6,c6,lr6,rfl,hlr6,hps6,hb5⟩
        have HLR5:=HLR4.out.later hb5;have HPS5:=HPS4.out.later hb5;have hbs5:W0.heap.size≤w5.heap.size:=Nat.le_trans HBT.out.size hb5.size
        have hm65:m6≤100000:=by
         have h1:=hlr6.len;have h2:=leaves_nodes (ks[j]).2;have h3:=nodes_kid (es:=es) (List.getElem_mem hkl);have h4:=HN.out;unfold pre at h1;rw[List.length_map]at h1;omega
        obtain⟨A7,c7,w7,r7,HLR7,hb7,hto⟩:=HLR5.app Tryz.underlying141 infoL rfl (by omega) hbs5 hlr6.own.rd hlr6.len (hps6.mono fun b hb _=>hb.2.1) (by omega)
        have HLR8:Hid (LfRow w7 W0.heap.size 144 A7 (m+m6) c7 (es.map (fun e=>(p,e))++kidsL p ks (j+1)) (lr++lr6)):=by unfold Hid;rw[HSUC.out,← List.append_assoc];exact HLR7
        have HPS8:Hid (Paths w7 (fun b=>(Value.slice A7 (m+m6) c7).ownBlock≠some b∧ok b) (es.map (fun e=>(p,e))++kidsL p ks (j+1)) (lr++lr6)):=by unfold Hid;rw[HSUC.out,← List.append_assoc];exact hto ok _ _ (HPS5.app (hps6.mono fun b hb _=>hb.2))
        have HBT8:=Lib.hid ((HBT.out.trans (hb5.mono HBT.out.size)).trans hb7);have Hrun7:=Lib.hid r7;clear e1 e2 e3 hsz hlr6 hps6 hb5 HLR5 HPS5 hbs5 r7 HLR7 hb7 hto;go_wp2_with (at_builtin;refine Lib.wpList_append_run _ rfl _ _ _ _ rfl _ _ rfl rfl _ _ Hrun7.out ?_);go_roundw
        case rel=>exact⟨j+1,A7,m+m6,c7,_,by omega,by go_num,rfl,HLR8.out,HPS8.out,HBT8.out⟩
        case measure=>simp[intOf];omega
      ·go_simp
       refine Th hK ?_ (fun hHeld2=>?_)
       ·(try dsimp only);go_keep
       clear hK K hHeld;have hHeld:=hHeld2;clear hHeld2;refine Tc 0 (fun K hK=>?_);go_simp;refine Th hK ?_ (fun hHeld2=>?_)
       ·(try dsimp only);go_keep
       clear hK K hHeld;have hHeld:=hHeld2;clear hHeld2;refine Tc 2 (fun K hK=>?_);refine upon_append _ _ _ rfl rfl rfl HX3C.out ?_;clear hHeld;refine Th hK ?_ (fun hHeld=>?_)
       ·exact HDC.out
       clear hK K;have d0:=HDC.out.1;have d1:=HDC.out.2;refine Tc 10 (fun K hK=>?_);refine upon_append _ _ _ rfl rfl rfl HX4C.out ?_;clear hHeld;refine Th hK ?_ (fun hHeld=>?_)
       ·exact HEC.out
       clear hK K;refine Tk 11 8 ?_;refine wpAnyH_done (by kernel_rfl) ?_ _;have e1:=HEC.out.2;have e2:=(HB4C.out.cell (p:=⟨b,o+j*3+1,none⟩) hbw).trans c1;have e3:=(HB4C.out.cell (p:=⟨b,o+j*3+2,none⟩) hbw).trans c2;have hsz:=HB4C.out.size
       have hp':RX w4C (fun b=>(Value.slice Ax m cx).ownBlock≠some b∧ok b) 1 A4C (np+1) c4C (strs (p++[key])):=by
        refine⟨HO4C.out.rd.len,HO4C.out.rd.cap,strs_one _,fun hn=>?_⟩;obtain⟨q,eq,q1,q2,_,q4⟩:=Sp.Own.place HO4C.out hn;refine⟨q,0,eq,⟨fun e=>?_,HOK.out q (by have:=HKW.out.below.size;omega)⟩,q2,fun j u hu=>by rw[Nat.zero_add];exact q4 j u hu⟩;have:=(HLR.out.own.row.lt q e).2;omega
       have hbw4:=HKW.out.below.trans (HB4C.out.mono HKW.out.below.size);have hcall:=IH.out _ (List.getElem_mem hkl) Ae' Ak' ne' nk' ce' ck' (p++[key]) A4C (np+1) c4C (fun b=>(Value.slice Ax m cx).ownBlock≠some b∧ok b) w4C (by have h1:=HN.out;have h2:=le_sum (f:=fun k:ByteArray×T=>nodes k.2) (List.getElem_mem hkl);rw[nodes_mk]at h1;omega) (RdT.more hbw4.size _ (RdT.below HKID.out hbw4)) (by rw[List.length_append,HPL.out];rfl) hp' (fun b hb=>⟨fun e=>by have:=(HLR.out.own.row.lt b e).2;omega,HOK.out b (by have:=HKW.out.below.size;omega)⟩);have HCALL:=Lib.hid hcall;have HLR4:=Lib.hid (HLR.out.later HB4C.out);have HPS4:=Lib.hid (HPS.out.later HB4C.out);have HBT:=Lib.hid (HBW.out.trans (HB4C.out.mono HBW.out.size));clear hp' hcall hbw4 hHeld d0 d1;go_wp2_with fail;refine HCALL.out.mono ?_;rintro e w5 ⟨A6,m6,c6,lr6,rfl,hlr6,hps6,hb5⟩
       have HLR5:=HLR4.out.later hb5;have HPS5:=HPS4.out.later hb5;have hbs5:W0.heap.size≤w5.heap.size:=Nat.le_trans HBT.out.size hb5.size
       have hm65:m6≤100000:=by
        have h1:=hlr6.len;have h2:=leaves_nodes (ks[j]).2;have h3:=nodes_kid (es:=es) (List.getElem_mem hkl);have h4:=HN.out;unfold pre at h1;rw[List.length_map]at h1;omega
       obtain⟨A7,c7,w7,r7,HLR7,hb7,hto⟩:=HLR5.app Tryz.underlying141 infoL rfl (by omega) hbs5 hlr6.own.rd hlr6.len (hps6.mono fun b hb _=>hb.2.1) (by omega)
       have HLR8:Hid (LfRow w7 W0.heap.size 144 A7 (m+m6) c7 (es.map (fun e=>(p,e))++kidsL p ks (j+1)) (lr++lr6)):=by unfold Hid;rw[HSUC.out,← List.append_assoc];exact HLR7
       have HPS8:Hid (Paths w7 (fun b=>(Value.slice A7 (m+m6) c7).ownBlock≠some b∧ok b) (es.map (fun e=>(p,e))++kidsL p ks (j+1)) (lr++lr6)):=by unfold Hid;rw[HSUC.out,← List.append_assoc];exact hto ok _ _ (HPS5.app (hps6.mono fun b hb _=>hb.2))
       have HBT8:=Lib.hid ((HBT.out.trans (hb5.mono HBT.out.size)).trans hb7);have Hrun7:=Lib.hid r7;clear e1 e2 e3 hsz hlr6 hps6 hb5 HLR5 HPS5 hbs5 r7 HLR7 hb7 hto;go_wp2_with (at_builtin;refine Lib.wpList_append_run _ rfl _ _ _ _ rfl _ _ rfl rfl _ _ Hrun7.out ?_);go_roundw
       case rel=>exact⟨j+1,A7,m+m6,c7,_,by omega,by go_num,rfl,HLR8.out,HPS8.out,HBT8.out⟩
       case measure=>simp[intOf];omega
     ·obtain rfl:j=nk:=by omega
      have hall:=kidsL_all p ks HLK.out
      have HLR9:Hid (LfRow wr W0.heap.size 144 Ax m cx (pre p (leaves (.mk es ks))) lr):=by unfold Hid;rw[pre_leaves,← hall];exact HLR.out
      have HPS9:Hid (Paths wr (fun b=>(Value.slice Ax m cx).ownBlock≠some b∧ok b) (pre p (leaves (.mk es ks))) lr):=by unfold Hid;rw[pre_leaves,← hall];exact HPS.out
      clear hall;go_wp2_with fail;go_ret;exact⟨Ax,m,cx,lr,rfl,HLR9.out.mono HK.out.below.size,HPS9.out,HKW.out.below⟩
theorem pre_nil (l:List Lf):pre [] l=l:=by unfold pre;simp
theorem leaves_any (t:T) (Ae Ak:Option Addr) (ne nk ce ck:Nat) (w:World) (hn:nodes t≤100000) (hr:RdT w w.heap.size t ⟨Ae,ne,ce⟩ ⟨Ak,nk,ck⟩) :
  Calls Tryz.prog 91 #[.agg #[.slice Ae ne ce,.slice Ak nk ck]] w fun e w'=>∃ A c,e = .returned (.slice A (leaves t).length c)∧LfRd w' w'.heap.size A (leaves t).length c (leaves t)∧Below w.heap.size w w':=by
 have hb1:Below w.heap.size w (w.alloc (.cells #[.slice Ae ne ce,.slice Ak nk ck] 35)):=Dt.box_below _ _ _;have HC:=Lib.hid (below_any t Ae Ak ne nk ce ck [] none 0 0 (fun _=>True) _ (by omega) (RdT.more hb1.size _ (RdT.below hr hb1)) rfl ⟨rfl,Nat.le_refl _,by simp[strs],fun h=>absurd h (by omega)⟩ (fun _ _=>trivial));have HB:=Lib.hid hb1;clear hr hb1;go_enter Tryz.func91,Tryz.ntmps91;go_wp2_with fail;refine HC.out.mono ?_;rintro e w2 ⟨A,m,c,lr,rfl,hl,_,hb2⟩;have HB2:=Lib.hid (HB.out.trans (hb2.mono HB.out.size));have hrd:=hl.rd;rw[pre_nil]at hrd;obtain rfl:(leaves t).length=m:=hrd.1;have HR:=Lib.hid hrd;clear hb2 hl hrd;go_wp2_with fail;go_ret;exact⟨A,c,rfl,HR.out,HB2.out⟩
end Tr
end Go.Proofs.YtcbpgemiffmieaaGreat
