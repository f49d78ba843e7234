/- Texts of the lower layers, and of layer 9, put together. -/
import Derived.Test.YtgeafpaognhokaaGreatG00
import Derived.Test.YtgeafpaognhokaaGreatCauHas
import Derived.Test.YtgeafpaognhokaaGreatTreeLeaves
import Derived.Test.YtgeafpaognhokaaGreatG10
import Derived.Test.YtgeafpaognhokaaGreatTreeRefRight
namespace Go.Proofs.YtgeafpaognhokaaGreat
open Go.ChangeShapes Go.WideShapes Go.ChangeAt Go.RowKit
namespace Cs
open Tr Cx Sp Rw
end Cs
end Go.Proofs.YtgeafpaognhokaaGreat
namespace Go.Proofs.YtgeafpaognhokaaGreat
open Go.ChangeShapes Go.WideShapes Go.ChangeAt Go.RowKit
namespace Tr
open Sp Rw
theorem RX.cut1 {w:World} {ok:Nat→Prop} {n c:Nat} {A:Option Addr} {xs:List Value} (h:RX w ok 1 A (n+1) c xs):RX w ok 1 (if c=1 then A else A.map (fun a:Addr=>a.add 1)) n (c-1) (xs.drop 1):=by
 have hc:=h.cap;have hl:=h.len;refine⟨by rw[List.length_drop,hl];omega,by omega,fun u hu=>h.one u (List.mem_of_mem_drop hu),fun hn=>?_⟩;obtain⟨b,o,rfl,h1,h2,h3⟩:=h.at_ (by omega);refine⟨b,o+1,?_,h1,h2,fun j u hu=>?_⟩
 ·rw[if_neg (by omega)]
  simp[Addr.add]
 ·rw[List.getElem?_drop]at hu
  have:=h3 (1+j) u hu
  rwa [← Nat.add_assoc]at this
theorem cutS1 (A:Option Addr) (n c:Nat) (W:World):(Instr.slice 25 (.slice A (n+1) c) (some (.int .i64 1)) none none).run Tryz.prog W = .ok (.slice (if c=1 then A else A.map (fun a:Addr=>a.add 1)) n (c-1)) W:=by
 obtain⟨i0,hi0,_,hz1,_⟩:=info_of infoS;exact run_cut_from (P:=Tryz.prog) 25 9 1 Tryz.underlying25 hi0 hz1 A (n+1) c 1 (by omega) W
theorem under_succ {ls:List Lf} {k:Nat} (h:k<ls.length) (key:ByteArray):under (ls.take (k+1)) key=under (ls.take k) key++under [ls[k]] key:=by rw[List.take_succ_eq_append_getElem h,under_append]
theorem under_len (ls:List Lf) (key:ByteArray):(under ls key).length≤ls.length:=List.length_filterMap_le _ _
set_option maxRecDepth 100000 in
set_option maxHeartbeats 4000000 in
theorem under_any (ls:List Lf) (n:Nat) (A:Option Addr) (c:Nat) (key:ByteArray) (w:World) (hn:n≤100000) (h:LfRd w w.heap.size A n c ls) :
  Calls Tryz.prog 118 #[.slice A n c,.string key] w fun e w'=>∃ A' c',e = .returned (.slice A' (under ls key).length c')∧LfRd w' w'.heap.size A' (under ls key).length c' (under ls key)∧Below w.heap.size w w':=by
 have HL:=Lib.hid h;have HN:=Lib.hid hn;have HLN:=Lib.hid h.1;have hn5:n≤100000:=HN.out;clear h hn;go_enter Tryz.func118,Tryz.ntmps118;go_wp2_with fail
 go_loopw [5,9] (fun s i wr=>∃ (k:Nat) (Ax:Option Addr) (m cx:Nat) (lr:List (SV×E)),k≤n∧i = .int .i64 k∧s = .slice Ax m cx∧Hid (LfRow wr w.heap.size 109 Ax m cx (under (ls.take k) key) lr)∧Hid (Below w.heap.size w wr)) (fun _ i _=>n-(intOf i).toNat)
 case atStart=>exact⟨0,none,0,0,[],by omega,rfl,rfl,by unfold Hid;simpa [under] using LfRow.nil w w.heap.size 109,Below.refl _ _⟩
 case round=>
  obtain⟨k,Ax,m,cx,lr,hk,rfl,rfl,HLR,HBW⟩:=hrel
  by_cases hlt:k<n
  ·have hkl:k<ls.length:=by rw[HLN.out];exact hlt
   have hm5:m≤100000:=by
    have h1:=HLR.out.len;have h2:=under_len (ls.take k) key;rw[List.length_take]at h2;have:=HN.out;omega
   obtain⟨b,o,rfl,hb,hc⟩:=LfRd.at_ HL.out (by omega);obtain⟨⟨Ap,np,cp⟩,c0,c1,c2,c3,c4,hpl,hpx⟩:=hc k hkl;dsimp only at c0 hpl hpx;have c0:=(HBW.out.cell (p:=⟨b,o+k*5,none⟩) hb).trans c0;have c1:=(HBW.out.cell (p:=⟨b,o+k*5+1,none⟩) hb).trans c1;have c2:=(HBW.out.cell (p:=⟨b,o+k*5+2,none⟩) hb).trans c2;have c3:=(HBW.out.cell (p:=⟨b,o+k*5+3,none⟩) hb).trans c3;have c4:=(HBW.out.cell (p:=⟨b,o+k*5+4,none⟩) hb).trans c4;have hsuc:=under_succ hkl key;obtain⟨x,hx⟩:∃ x,x=ls[k]:=⟨_,rfl⟩;rw[← hx]at c1 c2 c3 c4 hpl hpx hsuc;obtain⟨p,ea,en,es,ev⟩:=x;dsimp only at c1 c2 c3 c4 hpl hpx;clear hc hx
   cases p with
   | nil=>
    obtain rfl:np=0:=by simpa using hpl.symm
    have HLR2:Hid (LfRow wr w.heap.size 109 Ax m cx (under (ls.take (k+1)) key) lr):=by unfold Hid;rw[hsuc];simpa [under] using HLR.out
    clear hsuc hpx hpl;go_wp2_with fail;go_roundw
    case rel=>exact⟨k+1,Ax,m,cx,lr,by omega,by go_num,rfl,HLR2.out,HBW.out⟩
    case measure=>simp[intOf];omega
   | cons k0 p=>
    obtain⟨nq,hnp⟩:∃ z,np=z+1:=⟨p.length,by rw[← hpl];rfl⟩;subst hnp;have fz:decide ((0:Int)<((nq+1:Nat):Int))=true:=decide_eq_true (by omega);obtain⟨b1,o1,rfl,hb1,_,hcc⟩:=hpx.at_ (by omega);have p0:=(HBW.out.cell (p:=⟨b1,o1,none⟩) hb1).trans (by simpa [strs] using hcc 0 (.string k0) (by simp[strs]));clear hcc
    by_cases hkk:k0=key
    ·subst hkk
     have HSUC:Hid (under (ls.take (k+1)) k0=under (ls.take k) k0++[(p,⟨ea,en,es,ev⟩)]):=by unfold Hid;rw[hsuc];simp[under]
     have hpx1:RX wr (fun b=>(Value.slice Ax m cx).ownBlock≠some b) 1 (if cp=1 then some ⟨b1,o1,none⟩else Option.map (fun a:Addr=>a.add 1) (some (⟨b1,o1,none⟩:Addr))) nq (cp-1) (strs p):=by
      have h1:=RX.cut1 hpx
      have h2:(strs (k0::p)).drop 1=strs p:=by simp[strs]
      rw[h2]at h1;exact (h1.keep HBW.out.size (fun b hb _=>HBW.out.block b hb)).mono (fun b hb _=>fun e=>by have h3:=(HLR.out.own.row.lt b e).1;omega)
     obtain⟨Ac,hAc⟩:∃ z,z=(if cp=1 then some ⟨b1,o1,none⟩else Option.map (fun a:Addr=>a.add 1) (some (⟨b1,o1,none⟩:Addr)):Option Addr):=⟨_,rfl⟩
     have hcut:∀ W,(Instr.slice 25 (.slice (some ⟨b1,o1,none⟩) (nq+1) cp) (some (.int .i64 1)) none none).run Tryz.prog W = .ok (.slice Ac nq (cp-1)) W:=fun W=>by rw[hAc];exact cutS1 _ _ _ W
     rw[← hAc]at hpx1
     have hpl2:p.length=nq:=by simpa using hpl
     have hdr:Below wr.heap.size wr wr.drew:=(Below.refl _ wr).drew;obtain⟨A6,c6,w6,r1,HLR6,hb6,_⟩:=LfRow.push (e:=⟨ea,en,es,ev⟩) (s:=⟨Ac,nq,cp-1⟩) (HLR.out.later hdr) (Nat.le_trans HBW.out.size hdr.size) hpl2 (hpx1.later hdr) (by omega)
     have HLR7:Hid (LfRow w6 w.heap.size 109 A6 (m+1) c6 (under (ls.take (k+1)) k0) (lr++[(⟨Ac,nq,cp-1⟩,⟨ea,en,es,ev⟩)])):=by unfold Hid;rw[HSUC.out];exact HLR6
     have HB7:Hid (Below w.heap.size w w6):=HBW.out.drew.trans hb6;have t0:=(hb6.cell (p:=⟨b,o+k*5,none⟩) hb).trans c0;have t1:=(hb6.cell (p:=⟨b,o+k*5+1,none⟩) hb).trans c1;have t2:=(hb6.cell (p:=⟨b,o+k*5+2,none⟩) hb).trans c2;have t3:=(hb6.cell (p:=⟨b,o+k*5+3,none⟩) hb).trans c3;have t4:=(hb6.cell (p:=⟨b,o+k*5+4,none⟩) hb).trans c4;have HT:=Lib.hid (And.intro t0 (And.intro t1 (And.intro t2 (And.intro t3 t4))));dsimp only at r1;have hdz:wr.drew.heap.size=wr.heap.size:=rfl;rw[hdz]at r1;have Hrun:=Lib.hid r1;clear hAc hpx hpx1 hpl hpl2 hdr r1 HLR6 hb6 hsuc hb1 t0 t1 t2 t3 t4 hdz;go_wp2_with fail;refine wp_region_held_drew (S:=fun W=>W.cell? ⟨b,o+k*5,none⟩=some (.slice (some ⟨b1,o1,none⟩) (nq+1) cp)∧W.cell? ⟨b,o+k*5+1,none⟩=some (.int .i64 ea)∧W.cell? ⟨b,o+k*5+2,none⟩=some (.int .i64 en)∧W.cell? ⟨b,o+k*5+3,none⟩=some (.string es)∧W.cell? ⟨b,o+k*5+4,none⟩=some (.int .i64 ev)) (by kernel_rfl) (by go_keep) (fun hHeld=>?_)
     refine Tk 0 30 ?_;refine Tk 1 31 ?_;refine Tk 2 32 ?_;refine Tk 3 33 ?_;refine Tk 4 34 ?_;refine Tk 5 35 ?_;refine Tk 6 36 ?_;refine Tk 7 37 ?_;refine Tk 8 38 ?_;refine Tk 9 39 ?_;refine Tk 10 40 ?_;refine Tk 11 41 ?_;refine Tk 12 42 ?_;refine Tc 13 (fun K hK=>?_);go_simp;refine Th hK ?_ (fun hHeld2=>?_)
     ·(try dsimp only);go_keep
     clear hK K hHeld;have hHeld:=hHeld2;clear hHeld2;refine Tc 14 (fun K hK=>?_);refine upon_append _ _ _ rfl rfl rfl Hrun.out ?_;clear hHeld;refine Th hK ?_ (fun hHeld=>?_)
     ·exact HT.out
     clear hK K;refine Tk 15 5 ?_;refine wpAnyH_done (by kernel_rfl) ?_ _;clear hHeld;go_wp2_with fail;go_roundw
     case rel=>exact⟨k+1,A6,m+1,c6,_,by omega,by go_num,rfl,HLR7.out,HB7.out⟩
     case measure=>simp[intOf];omega
    ·have f4:(k0.toList==key.toList)=false:=bytes_ne hkk
     have HLR2:Hid (LfRow wr w.heap.size 109 Ax m cx (under (ls.take (k+1)) key) lr):=by unfold Hid;rw[hsuc];simpa [under,hkk] using HLR.out
     clear hsuc hpx hpl hkk;go_wp2_with fail;go_roundw
     case rel=>exact⟨k+1,Ax,m,cx,lr,by omega,by go_num,rfl,HLR2.out,HBW.out⟩
     case measure=>simp[intOf];omega
  ·obtain rfl:k=n:=by omega
   have hrd:=HLR.out.rd;rw[List.take_of_length_le (by rw[HLN.out];omega)]at hrd;obtain rfl:(under ls key).length=m:=hrd.1;have HRD:=Lib.hid hrd;clear hrd;go_wp2_with fail;go_ret;exact⟨Ax,cx,rfl,HRD.out,HBW.out⟩
end Tr
end Go.Proofs.YtgeafpaognhokaaGreat
namespace Go.Proofs.YtgeafpaognhokaaGreat
open Go.ChangeShapes Go.WideShapes Go.ChangeAt Go.RowKit
namespace Tr
open Sp Rw
def zeroE:E:=⟨0,0,⟨#[]⟩,0⟩
def bestE (r:Option E):E:=match r with | none=>zeroE | some e=>e
def bestK (r:Option ByteArray):ByteArray:=match r with | none=>⟨#[]⟩ | some k=>k
section
variable {α:Type} {lt:α→α→Prop} {ab:α→Prop} {m:List α} {x b:α} {r:Option α}
theorem least_skip (h:¬ab x) (hr:LeastOf lt m ab r):LeastOf lt (m++[x]) ab r:=by
 cases r with
 | none=>
  intro y hy
  rcases List.mem_append.1 hy with hy | hy
  ·exact hr y hy
  ·rw[List.mem_singleton.1 hy];exact h
 | some b=>
  refine⟨List.mem_append_left _ hr.1,hr.2.1,fun y hy ha=>?_⟩
  rcases List.mem_append.1 hy with hy | hy
  ·exact hr.2.2 y hy ha
  ·rw[List.mem_singleton.1 hy]at ha;exact absurd ha h
theorem least_new (irr:∀ a,¬lt a a) (h:ab x) (hr:LeastOf lt m ab none):LeastOf lt (m++[x]) ab (some x):=by
 refine⟨List.mem_append_right _ List.mem_cons_self,h,fun y hy ha=>?_⟩
 rcases List.mem_append.1 hy with hy | hy
 ·exact absurd ha (hr y hy)
 ·rw[List.mem_singleton.1 hy];exact irr x
theorem least_less (irr:∀ a,¬lt a a) (tr:∀ a b c,lt a b→lt b c→lt a c) (h:ab x) (hl:lt x b) (hr:LeastOf lt m ab (some b)):LeastOf lt (m++[x]) ab (some x):=by
 refine⟨List.mem_append_right _ List.mem_cons_self,h,fun y hy ha=>?_⟩
 rcases List.mem_append.1 hy with hy | hy
 ·exact fun hyx=>hr.2.2 y hy ha (tr _ _ _ hyx hl)
 ·rw[List.mem_singleton.1 hy];exact irr x
theorem least_not (hl:¬lt x b) (hr:LeastOf lt m ab (some b)):LeastOf lt (m++[x]) ab (some b):=by
 refine⟨List.mem_append_left _ hr.1,hr.2.1,fun y hy ha=>?_⟩
 rcases List.mem_append.1 hy with hy | hy
 ·exact hr.2.2 y hy ha
 ·rw[List.mem_singleton.1 hy];exact hl
end
theorem rootE_succ {ls:List Lf} {k:Nat} (h:k<ls.length):rootE (ls.take (k+1))=rootE (ls.take k)++rootE [ls[k]]:=by
 rw[List.take_succ_eq_append_getElem h];unfold rootE;rw[List.filterMap_append]
theorem heads_succ {ls:List Lf} {k:Nat} (h:k<ls.length):heads (ls.take (k+1))=heads (ls.take k)++heads [ls[k]]:=by
 rw[List.take_succ_eq_append_getElem h];unfold heads;rw[List.filterMap_append]
theorem kidAt_nth:∀ {ks:List (ByteArray×T)},ks.Pairwise (fun x y=>ltS x.1 y.1)→∀ (j:Nat) (h:j<ks.length),kidAt ks (ks[j]).1=(ks[j]).2
 | k::ks,hp,0,_=>by
  show kidAt (k::ks) k.1=k.2;unfold kidAt;rw[if_pos rfl]
 | k::ks,hp,j+1,h=>by
  rw[List.pairwise_cons]at hp
  have hj:j<ks.length:=by simpa using h
  have hlt:=hp.1 (ks[j]) (List.getElem_mem hj);show kidAt (k::ks) (ks[j]).1=(ks[j]).2;unfold kidAt;rw[if_neg (fun e=>tot_str.irr (ks[j]).1 (by rw[e]at hlt;exact hlt))];exact kidAt_nth hp.2 j hj
theorem heads_ok {d:Nat} {es:List E} {ks:List (ByteArray×T)} (h:RightT (d+1) (.mk es ks)) {k:ByteArray} (hk:k∈heads (leaves (.mk es ks))):1≤k.size:=by
 obtain⟨x,hx,rfl⟩:=List.mem_map.1 ((heads_leaves h k).1 hk);exact (h.2.2.2 x hx).1.1
theorem _root_.Go.Proofs.YtgeafpaognhokaaGreat.Free.low {g B:Nat} {w w':World} (h:Free g w) (hb:Below B w w') (hg:g<B) (hs:w.heap.size≤w'.heap.size):Free g w':=⟨Nat.lt_of_lt_of_le h.1 hs,fun j=>(hb.frozen (p:=⟨g,j,none⟩) hg).trans (h.2 j)⟩
theorem push_ent (W:World) (base q:Nat) (hq:W.heap.size=q) {A:Option Addr} {n c:Nat} {l:List E} (h:Own W base 97 4 A n c (entsC l)) (hl:l.length=n) (hb:base≤W.heap.size) (e:E) (hn:n≤800000) :
  ∃ A' c' w',(Builtin.append_ #[32,32] 32 #[.slice A n c,.slice (some ⟨q,0,none⟩) 1 1]).run Tryz.prog (W.alloc (.cells #[.int .i64 e.a,.int .i64 e.n,.string e.s,.int .i64 e.v] 97)) = .ok (.slice A' (n+1) c') w'∧Own w' base 97 4 A' (n+1) c' (entsC (l++[e]))∧Below base W w':=by
 subst hl;obtain⟨A',c',w',r1,r2,r3⟩:=Rw.push (f:=entC) entC_len entC_one (t:=32) Tryz.underlying32 infoE rfl (by omega) (by omega) W base q hq hb (.slice A l.length c) l h.row e _ rfl (by omega)
 have e1:(l++[e]).length=l.length+1:=by simp
 rw[e1]at r1 r2;exact⟨A',c',w',r1,r2,r3⟩
def lastK (ks:List (ByteArray×T)) (j:Nat):ByteArray:=match j with | 0=>⟨#[]⟩ | j+1=>((ks.map fun x=>x.1)[j]?).getD ⟨#[]⟩
theorem str_cons {k:ByteArray} (h:1≤k.size):∃ a l,k.toList=a::l:=by
 rcases hk:k.toList with _ | ⟨a,l⟩
 ·have h1:k.toList.length=k.size:=by rw[ByteArray.toList_eq];simp
  rw[hk]at h1
  simp at h1
  omega
 ·exact⟨a,l,rfl⟩
theorem str_isEmpty {k:ByteArray} (h:1≤k.size):k.toList.isEmpty=false:=by
 obtain⟨a,l,e⟩:=str_cons h;rw[e];rfl
theorem nil_isEmpty:(⟨#[]⟩:ByteArray).toList.isEmpty=true:=by
 rw[ByteArray.toList_eq];rfl
theorem above_key {ks:List (ByteArray×T)} {j:Nat} {k:ByteArray} (h:1≤k.size) (hj:j≤ks.length):Abv ltS (ks.map fun x=>x.1) j k↔Op.bytesLess (lastK ks j).toList k.toList=true:=by
 cases j with
 | zero=>
  obtain⟨a,l,e⟩:=str_cons h;refine⟨fun _=>?_,fun _ h0 _=>absurd h0 (by omega)⟩;show Op.bytesLess (⟨#[]⟩:ByteArray).toList k.toList=true;rw[e,ByteArray.toList_eq];rfl
 | succ j=>
  have hl:j<(ks.map fun x=>x.1).length:=by rw[List.length_map];omega
  have e:lastK ks (j+1)=(ks.map fun x=>x.1)[j]:=by show ((ks.map fun x=>x.1)[j]?).getD ⟨#[]⟩=_;rw[List.getElem?_eq_getElem hl];rfl
  rw[e];exact⟨fun h1=>h1 (by omega) hl,fun h1 _ _=>h1⟩
def cntOf:Option Value→Nat | some (.slice _ n _)=>n | _=>0
end Tr
end Go.Proofs.YtgeafpaognhokaaGreat
namespace Go.Proofs.YtgeafpaognhokaaGreat
open Go.ChangeShapes Go.WideShapes Go.ChangeAt Go.RowKit
namespace Tr
open Sp Rw
set_option maxRecDepth 100000 in
set_option maxHeartbeats 4000000 in
theorem refdots_own (t:T) (Ae Ak:Option Addr) (ne nk ce ck:Nat) (w:World) (hn:nodes t≤1000) (hr:RdT w w.heap.size t ⟨Ae,ne,ce⟩ ⟨Ak,nk,ck⟩) (hg:Cx.goodD (dl t)) (u:List Cx.S3) (hu:Cx.OfC (dl t) u) (q:Nat) (hq:u.length=q) (hq8:q≤800000) :
  Calls Tryz.prog 72 #[.agg #[.slice Ae ne ce,.slice Ak nk ck]] w fun e w'=>∃ A' c',e = .returned (.slice A' q c')∧Own w' w.heap.size 117 3 A' q c' (spsC u)∧Below w.heap.size w w':=by
 have HR:=Lib.hid hr;have HN:=Lib.hid hn;have HU:=Lib.hid hu;have HQ:=Lib.hid hq;have HG2:=Lib.hid hg;have HQ8:=Lib.hid hq8;clear hr hn hu hq hg hq8;obtain⟨g,hg⟩:∃ g,g=w.heap.size:=⟨_,rfl⟩;have HK:=Lib.hid (tree_box w Ae Ak ne nk ce ck);rw[← hg]at HK;obtain⟨W0,hW0⟩:∃ W,W=w.alloc (.cells #[.slice Ae ne ce,.slice Ak nk ck] 35):=⟨_,rfl⟩;rw[← hW0]at HK;have HG:=Lib.hid hg;have HW0:=Lib.hid hW0;have k0:=HK.out.c0;have k1:=HK.out.c1;clear hg hW0;go_enter Tryz.func72,Tryz.ntmps72;go_wp2_with fail;rw[← HG.out,← HW0.out];refine (leaves_any t Ae Ak ne nk ce ck W0 (by have:=HN.out;omega) (RdT.more HK.out.below.size _ (RdT.below HR.out HK.out.below))).mono ?_;rintro e w1 ⟨Al,cl,rfl,hl,hb1⟩;have HK1:=Lib.hid (HK.out.later hb1);have HLF:=Lib.hid hl
 obtain⟨n,hn⟩:∃ n,n=(leaves t).length:=⟨_,rfl⟩;rw[← hn]at HLF ⊢;have HNN:=Lib.hid hn
 have hn1:n≤1000:=by have:=leaves_nodes t;have:=HN.out;omega
 clear k0 k1 hb1 hl hn;go_wp2_with fail
 go_loopw [3,10] (fun v i wr=>∃ (k:Nat) (Ax:Option Addr) (cx:Nat),k≤n∧i = .int .i64 k∧v = .slice Ax k cx∧Hid (Own wr w1.heap.size 37 2 Ax k cx (((leaves t).take k).map (fun x=>dotE x.2) |>.flatMap Cx.dotC))∧Hid (Gr w1 wr (.slice none 0 0) (.slice Ax k cx))) (fun _ i _=>n-(intOf i).toNat)
 case atStart=>exact⟨0,none,0,by omega,rfl,rfl,⟨World.ownsRow_nil _ _ _ _,by simp⟩,Gr.refl _ _⟩
 case round=>
  obtain⟨k,Ax,cx,hk,rfl,rfl,HO,HGR⟩:=hrel;have hbw:Below w1.heap.size w1 wr:=HGR.out.below (Nat.le_refl _) (fun k hk=>by simp[Value.ownBlock]at hk)
  by_cases hlt:k<n
  ·have hkl:k<(leaves t).length:=by rw[← HNN.out];exact hlt
   obtain⟨b,o,rfl,hb,hc⟩:=LfRd.at_ HLF.out (by omega);obtain⟨s,_,c1,c2,c3,c4,_,_⟩:=hc k hkl;have c1:=(hbw.cell (p:=⟨b,o+k*5+1,none⟩) hb).trans c1;have c2:=(hbw.cell (p:=⟨b,o+k*5+2,none⟩) hb).trans c2
   have HSUC:Hid (((leaves t).take (k+1)).map (fun x=>dotE x.2)=((leaves t).take k).map (fun x=>dotE x.2)++[(((leaves t)[k]).2.a,((leaves t)[k]).2.n)]):=by unfold Hid;rw[List.take_succ_eq_append_getElem hkl,List.map_append];rfl
   obtain⟨ea,hea⟩:∃ x,x=((leaves t)[k]).2.a:=⟨_,rfl⟩;obtain⟨en,hen⟩:∃ x,x=((leaves t)[k]).2.n:=⟨_,rfl⟩;rw[← hea]at c1 HSUC;rw[← hen]at c2 HSUC;obtain⟨A6,c6,w6,r1,r2,r3⟩:=push_dot wr w1.heap.size wr.heap.size rfl HO.out hbw.size (ea,en) (by omega)
   have HO6:Hid (Own w6 w1.heap.size 37 2 A6 (k+1) c6 (((leaves t).take (k+1)).map (fun x=>dotE x.2) |>.flatMap Cx.dotC)):=by unfold Hid;rw[HSUC.out];exact r2
   have HGR6:Hid (Gr w1 w6 (.slice none 0 0) (.slice A6 (k+1) c6)):=HGR.out.trans r3;have Hrun:=Lib.hid r1;clear hc hea hen r1 r2 r3 HSUC c3 c4 hbw;go_wp2_with (at_builtin;refine Lib.wpList_append_run _ rfl _ _ _ _ rfl _ _ rfl rfl _ _ Hrun.out ?_);go_roundw
   case rel=>exact⟨k+1,A6,c6,by omega,by go_num,rfl,HO6.out,HGR6.out⟩
   case measure=>simp[intOf];omega
  ·obtain rfl:k=n:=by omega
   have hrd:Rd wr wr.heap.size 2 Ax k cx ((dl t).flatMap Cx.dotC):=by
    have h1:=HO.out;rw[List.take_of_length_le (by rw[← HNN.out];omega)]at h1;exact h1.rd
   have hof:=Cx.refofC_own (dl t) k Ax cx wr (by rw[dl_len];exact HNN.out.symm) hn1 hrd HG2.out u HU.out q HQ.out HQ8.out;have HOF:=Lib.hid hof;have HB:=Lib.hid (HK1.out.below.trans (hbw.mono HK1.out.below.size));clear hrd hof hbw;go_wp2_with fail;refine HOF.out.mono ?_;rintro e w3 ⟨A3,c3,rfl,hr3,hb3⟩;have HR3:=Lib.hid (hr3.mono HB.out.size);have HB3:=Lib.hid (HB.out.trans (hb3.mono HB.out.size));clear hr3 hb3;go_wp2_with fail;go_ret;exact⟨A3,c3,rfl,HR3.out,HB3.out⟩
theorem refdots_any (t:T) (Ae Ak:Option Addr) (ne nk ce ck:Nat) (w:World) (hn:nodes t≤1000) (hr:RdT w w.heap.size t ⟨Ae,ne,ce⟩ ⟨Ak,nk,ck⟩) (hg:Cx.goodD (dl t)) (u:List Cx.S3) (hu:Cx.OfC (dl t) u) (q:Nat) (hq:u.length=q) (hq8:q≤800000) :
  Calls Tryz.prog 72 #[.agg #[.slice Ae ne ce,.slice Ak nk ck]] w fun e w'=>∃ A' c',e = .returned (.slice A' q c')∧Rd w' w'.heap.size 3 A' q c' (spsC u)∧Below w.heap.size w w':=
 (refdots_own t Ae Ak ne nk ce ck w hn hr hg u hu q hq hq8).mono fun e w' h=>by
  obtain⟨A',c',h1,h2,h3⟩:=h;exact⟨A',c',h1,h2.rd,h3⟩
end Tr
end Go.Proofs.YtgeafpaognhokaaGreat
namespace Go.Proofs.YtgeafpaognhokaaGreat
open Go.ChangeShapes Go.WideShapes Go.ChangeAt Go.RowKit
namespace Tr
open Sp Rw
theorem push_str (W:World) (base q:Nat) (hq:W.heap.size=q) {A:Option Addr} {n c:Nat} {l:List ByteArray} (h:Own W base 9 1 A n c (strs l)) (hb:base≤W.heap.size) (s:ByteArray) (hn:n≤800000) :
  ∃ A' c' w',(Builtin.append_ #[25,25] 25 #[.slice A n c,.slice (some ⟨q,0,none⟩) 1 1]).run Tryz.prog (W.alloc (.cells #[.string s] 9)) = .ok (.slice A' (n+1) c') w'∧Own w' base 9 1 A' (n+1) c' (strs (l++[s]))∧Below base W w':=by
 subst hq;have hb1:Below W.heap.size W (W.alloc (.cells #[.string s] 9)):=Dt.box_below _ _ _;obtain⟨A4,c4,w4,r1,r2,r3⟩:=add_key (W.alloc (.cells #[.string s] 9)) base (own_later h hb1) (Nat.le_trans hb hb1.size) (rd_key _ W.heap.size (W.heap.size+1) (by omega) s (heap_alloc_new _ _)) hn;exact⟨A4,c4,w4,r1,r2,(hb1.mono hb).trans r3⟩
theorem rd_one1 (W:World) (s:ByteArray):Rd (W.alloc (.cells #[.string s] 9)) (W.alloc (.cells #[.string s] 9)).heap.size 1 (some ⟨W.heap.size,0,none⟩) 1 1 (strs [s]):=rd_key _ _ _ (by simp) s (heap_alloc_new _ _)
theorem rd_text {w:World} {B n c:Nat} {A:Option Addr} {l:List ByteArray} (h:Rd w B 1 A n c (strs l)) (hn:0<n):∃ b o,A=some ⟨b,o,none⟩∧b<B∧∀ (i:Nat) (hi:i<l.length),w.cell? ⟨b,o+i,none⟩=some (.string l[i]):=by
 obtain⟨b,o,e,hb,hc⟩:=h.at_ hn;exact⟨b,o,e,hb,fun i hi=>hc i _ (by simp[strs,hi])⟩
theorem strs_len (l:List ByteArray):(strs l).length=l.length:=List.length_map _
theorem rd_len1 {w:World} {B n c:Nat} {A:Option Addr} {l:List ByteArray} (h:Rd w B 1 A n c (strs l)):l.length=n:=by
 have:=h.len;rw[strs_len,Nat.mul_one]at this;exact this
end Tr
end Go.Proofs.YtgeafpaognhokaaGreat
namespace Go.Proofs.YtgeafpaognhokaaGreat
open Go.ChangeShapes Go.WideShapes Go.ChangeAt Go.RowKit
namespace Cs
open Tr Cx Sp Rw Classical
set_option maxRecDepth 100000 in
set_option maxHeartbeats 4000000 in
theorem refkeys_own (t:T) (Ae Ak:Option Addr) (ne nk ce ck:Nat) (w:World) (hn:nodes t≤1000) (hr:RdT w w.heap.size t ⟨Ae,ne,ce⟩ ⟨Ak,nk,ck⟩) :
  Calls Tryz.prog 65 #[.agg #[.slice Ae ne ce,.slice Ak nk ck]] w fun e w'=>∃ (A':Option Addr) (c':Nat),e = .returned (.slice A' nk c')∧Hid (Own w' w.heap.size 9 1 A' nk c' (strs (keysOf t.ks)))∧Below w.heap.size w w':=by
 cases t with
 | mk es ks=>
  obtain⟨hle,hlk⟩:=rd_lens hr;have HR:=Lib.hid hr;have HLK:=Lib.hid hlk
  have hnk:nk≤1000:=by have:=nodes_es es ks;omega
  clear hle hlk hr hn;obtain⟨g,hg⟩:∃ g,g=w.heap.size:=⟨_,rfl⟩;have HK:=Lib.hid (tree_box w Ae Ak ne nk ce ck);rw[← hg]at HK;obtain⟨W0,hW0⟩:∃ W,W=w.alloc (.cells #[.slice Ae ne ce,.slice Ak nk ck] 35):=⟨_,rfl⟩;rw[← hW0]at HK;have HG:=Lib.hid hg;have HW0:=Lib.hid hW0;have k0:=HK.out.c0;have k1:=HK.out.c1;clear hg hW0;go_enter Tryz.func65,Tryz.ntmps65;go_wp2_with fail;rw[← HG.out,← HW0.out];go_wp2_with fail
  go_loopw [3,8] (fun v i wr=>∃ (k:Nat) (Ax:Option Addr) (cx:Nat),k≤nk∧i = .int .i64 k∧v = .slice Ax k cx∧Hid (Own wr W0.heap.size 9 1 Ax k cx (strs (keysOf (ks.take k))))∧Hid (Below W0.heap.size W0 wr)) (fun _ i _=>nk-(intOf i).toNat)
  case atStart=>exact⟨0,none,0,by omega,rfl,rfl,⟨World.ownsRow_nil _ _ _ _,by simp[Tr.strs,keysOf]⟩,Below.refl _ _⟩
  case round=>
   obtain⟨k,Ax,cx,hk,rfl,rfl,HO,HBL⟩:=hrel;clear k0 k1;have k0:=(HBL.out.cell (p:=⟨g,0,none⟩) (World.block_lt_of_cell? W0 _ HK.out.c0)).trans HK.out.c0;have k1:=(HBL.out.cell (p:=⟨g,1,none⟩) (World.block_lt_of_cell? W0 _ HK.out.c1)).trans HK.out.c1
   by_cases hlt:k<nk
   ·have hbw:=HK.out.below.trans (HBL.out.mono HK.out.below.size)
    have hkl:k<ks.length:=by rw[HLK.out];exact hlt
    obtain⟨b,o,rfl,hb,hc⟩:=rd_kid HR.out (by omega);obtain⟨⟨Ae',ne',ce'⟩,⟨Ak',nk',ck'⟩,c0,c1,c2,hkid⟩:=hc k hkl;dsimp only at c0 c1 c2;have c0:=(hbw.cell (p:=⟨b,o+k*3,none⟩) hb).trans c0;have c1:=(hbw.cell (p:=⟨b,o+k*3+1,none⟩) hb).trans c1;have c2:=(hbw.cell (p:=⟨b,o+k*3+2,none⟩) hb).trans c2;obtain⟨key,hkey⟩:∃ key,key=(ks[k]).1:=⟨_,rfl⟩;rw[← hkey]at c0
    have HSUC:Hid (keysOf (ks.take (k+1))=keysOf (ks.take k)++[key]):=by unfold Hid keysOf;rw[List.take_succ_eq_append_getElem hkl,List.map_append,hkey];rfl
    clear hc hkid hkey hbw;obtain⟨A6,c6,w6,r1,r2,r3⟩:=push_str wr W0.heap.size wr.heap.size rfl HO.out HBL.out.size key (by omega)
    have HO6:Hid (Own w6 W0.heap.size 9 1 A6 (k+1) c6 (strs (keysOf (ks.take (k+1))))):=by unfold Hid;rw[HSUC.out];exact r2
    have HBL6:=Lib.hid (HBL.out.trans r3);have Hrun:=Lib.hid r1;clear r1 r2 r3;go_wp2_with (at_builtin;refine Lib.wpList_append_run _ rfl _ _ _ _ rfl _ _ rfl rfl _ _ Hrun.out ?_);go_roundw
    case rel=>exact⟨k+1,A6,c6,by omega,by go_num,rfl,HO6.out,HBL6.out⟩
    case measure=>simp[intOf];omega
   ·obtain rfl:k=nk:=by omega
    have HRD:Hid (Own wr w.heap.size 9 1 Ax k cx (strs (keysOf ks))):=by
     have h1:=HO.out;rw[List.take_of_length_le (by rw[HLK.out];exact Nat.le_refl _)]at h1;exact h1.mono HK.out.below.size
    have HB:=Lib.hid (HK.out.below.trans (HBL.out.mono HK.out.below.size));go_wp2_with fail;go_ret;exact⟨Ax,cx,rfl,HRD.out,HB.out⟩
end Cs
end Go.Proofs.YtgeafpaognhokaaGreat
