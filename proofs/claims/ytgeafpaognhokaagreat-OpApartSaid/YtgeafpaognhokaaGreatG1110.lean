/- Texts of the lower layers, and of layer 9, put together. -/
import Derived.Test.YtgeafpaognhokaaGreatG110
import Derived.Test.YtgeafpaognhokaaGreatG60
import Derived.Test.YtgeafpaognhokaaGreatG50
import Derived.Test.YtgeafpaognhokaaGreatG10
import Derived.Test.YtgeafpaognhokaaGreatG01
import Derived.Test.YtgeafpaognhokaaGreatG00
namespace Go.Proofs.YtgeafpaognhokaaGreat
open Go.ChangeShapes Go.WideShapes Go.ChangeAt Go.RowKit
namespace Cs
open Tr Cx Sp Rw Classical
theorem tx_path:PathOk [(⟨#[99]⟩:ByteArray)]:=⟨by simp,by simp,fun k hk=>by
 rw[List.mem_singleton.1 hk]
 exact⟨by show ByteArray.size ⟨#[99]⟩≤30;decide,by show (3:Nat)≠0;decide⟩,fun i h h2=>by simp at h2⟩
theorem tx_op:OpOk ⟨[(⟨#[99]⟩:ByteArray)],5,⟨#[]⟩,3⟩:=⟨tx_path,.inr (.inr (.inl ⟨rfl,rfl⟩)),fun h=>by simp at h,fun h=>by simp at h,fun _=>rfl,fun _=>by decide,fun h=>absurd rfl h⟩
theorem tx_app:appE none_ ⟨[(⟨#[99]⟩:ByteArray)],5,⟨#[]⟩,3⟩ 1 1=0:=by
 unfold appE;rw[if_neg (by rw[right_none];decide),if_neg (fun h=>h (opE_ok tx_op)),if_neg (by rw[check_none];decide),if_neg];unfold fullB;rw[decide_eq_true_iff];rintro⟨_,⟨k,hk,h1,_⟩ | ⟨_,h1⟩⟩
 ·rw[getT_none]at h1
  exact absurd h1 (by show ¬24≤([]:List Kd).length;simp)
 ·rw[getT_none]at h1
  exact absurd h1 (by show ¬24≤([]:List E).length;simp)
set_option maxRecDepth 100000 in
set_option maxHeartbeats 4000000 in
theorem awake15 (w:World):Calls Tryz.prog 12 #[] w fun e w'=>e = .returned (.bool true)∧Below w.heap.size w w':=by
 obtain⟨tx,htx⟩:∃ x:ByteArray,x=⟨#[99]⟩:=⟨_,rfl⟩;have HTX:=Lib.hid htx
 have HOK:Hid (PathOk [tx]∧appE none_ ⟨[tx],5,⟨#[]⟩,3⟩ 1 1=0∧lastK [tx]=3∧KeyOk tx):=by unfold Hid;rw[htx];exact⟨tx_path,tx_app,rfl,path_keys tx_path _ (by simp)⟩
 obtain⟨gs,hgs⟩:∃ g,g=w.heap.size:=⟨_,rfl⟩;obtain⟨W,hW⟩:∃ W,W=w.alloc (.cells #[.string tx] 9):=⟨_,rfl⟩
 have hb9:Below w.heap.size w W:=by rw[hW];exact Dt.box_below _ _ _
 have RS:Hid (Rd W W.heap.size 1 (some ⟨gs,0,none⟩) 1 1 (Tr.strs [tx])):=by unfold Hid;rw[hW,hgs];exact rd_one1 _ _
 have HKc:Hid (Kept [] w W):=Kept.nil_of hb9;have Hgs:=Lib.hid hgs;have HW:=Lib.hid hW;clear htx hgs hW hb9;go_enter Tryz.func12,Tryz.ntmps12;go_wp2_with fail;rw[← HTX.out,← Hgs.out,← HW.out];refine (oapply_any none_ none none 0 0 0 0 [tx] 5 ⟨#[]⟩ 3 (some ⟨gs,0,none⟩) 1 1 1 1 W 0 HOK.out.2.1 (LenT.few (by rw[nodes_none];omega)) (by rw[nodes_none];omega) (RdT.none _ _ _ _) (by rw[nodes_none];omega) (by omega) RS.out).mono ?_;rintro e v1 ⟨kx,Xe,xe1,xe2,Xk,xk1,xk2,Xc,xc1,xc2,rfl,how,hdo,hb9⟩;have RX:=Lib.hid (RdP.of_own how.out)
 have HKX:Hid (kx.1=(wrapT (oneT ⟨1,1,⟨#[]⟩,3⟩) [tx])):=by
  unfold Hid;rw[(hdo.out.1 rfl).1.tree,if_pos (by unfold brings;simp)];unfold entOf endP;simp
 have HKc:=Lib.hid (HKc.out.later hb9);clear how hdo hb9 RS;have HRW:Hid (RightT 5 (wrapT (oneT ⟨1,1,⟨#[]⟩,3⟩) [tx])):=right_wrap1 ⟨by decide,by show ByteArray.size ⟨#[]⟩≤30;decide,by show (-1099511627776:Int)≤3;decide,by show (3:Int)≤1099511627776;decide⟩ HOK.out.2.2.2
 have HNX:Hid (nodes kx.1=2):=by unfold Hid;rw[HKX.out,Tr.nodes_wrap,nodes_one];rfl
 have HRE:Hid (readE kx.1 [tx]=0):=by
  unfold Hid readE;rw[HKX.out,if_neg (by rw[Tr.rightB_iff.2 HRW.out];decide)];exact pathE_zero.2 HOK.out.1
 have HRO:Hid (ReadOk (getT kx.1 [tx]) (lastK [tx]) ⟨3,false,3,[]⟩):=by
  unfold Hid;rw[HOK.out.2.2.1,HKX.out,show getT (wrapT (oneT ⟨1,1,⟨#[]⟩,3⟩) [tx]) [tx]=oneT ⟨1,1,⟨#[]⟩,3⟩ from get_wrap _ _];exact⟨rfl,by simp,by simp[sumE,T.es,oneT],(fun h=>by cases h),(fun h=>by cases h),(fun h=>by cases h),fun _=>rfl⟩
 obtain⟨g,hg⟩:∃ g,g=v1.heap.size:=⟨_,rfl⟩;obtain⟨v2,hv2⟩:∃ W,W=v1.alloc (.cells #[.slice Xe xe1 xe2,.slice Xk xk1 xk2,.slice Xc xc1 xc2] 42):=⟨_,rfl⟩
 have hb9:Below v1.heap.size v1 v2:=by rw[hv2];exact Dt.box_below _ _ _
 have b0:v2.cell? ⟨g,0,none⟩=some (.slice Xe xe1 xe2):=by rw[hv2,hg];go_simp
 have b1:v2.cell? ⟨g,1,none⟩=some (.slice Xk xk1 xk2):=by rw[hv2,hg];go_simp
 have b2:v2.cell? ⟨g,2,none⟩=some (.slice Xc xc1 xc2):=by rw[hv2,hg];go_simp
 have HKc:=Lib.hid (HKc.out.later hb9);have RX:=Lib.hid (RX.out.later hb9);clear hb9;have HKc:=Lib.hid (((HKc.out.cons_of b2).cons_of b1).cons_of b0);have Hg:=Lib.hid hg;have Hv2:=Lib.hid hv2;clear hg hv2 b0 b1 b2;obtain⟨c0,c1,c2,-⟩:=HKc.out.cj;rw[Hv2.out]at c0 c1 c2;rw[Hg.out]at c0 c1 c2
 have hs0:v2.heap.size=g+1:=by rw[Hv2.out,Hg.out];simp
 obtain⟨gs2,hgs2⟩:∃ z,z=g+1:=⟨_,rfl⟩;obtain⟨v3,hv3⟩:∃ W,W=v2.alloc (.cells #[.string tx] 9):=⟨_,rfl⟩
 have hb9:Below v2.heap.size v2 v3:=by rw[hv3];exact Dt.box_below _ _ _
 have HKc:=Lib.hid (HKc.out.later hb9);have RX:=Lib.hid (RX.out.later hb9);clear hb9
 have RS2:Hid (Rd v3 v3.heap.size 1 (some ⟨gs2,0,none⟩) 1 1 (strs [tx])):=by unfold Hid;rw[hv3,hgs2,← hs0];exact rd_one1 _ _
 have Hgs2:=Lib.hid hgs2;have Hv3:=Lib.hid hv3;clear hgs2 hv3 hs0;go_wp2_with fail
 try rw[← HTX.out]
 rw[← Hg.out,← Hv2.out];rw[← Hgs2.out,← Hv3.out];refine (oread_any kx.1 Xe Xk xe1 xk1 xe2 xk2 [tx] (some ⟨gs2,0,none⟩) 1 1 ⟨3,false,3,[]⟩ 0 v3 HRE.out (fun _=>HRO.out) (fun h=>absurd rfl h) (LenT.few (by rw[HNX.out];omega)) (by rw[HNX.out];omega) RX.out.tree (by rw[HNX.out];omega) (by omega) RS2.out (by simp)).mono ?_;rintro e v4 ⟨VA,vc,he,hro,hb9⟩;obtain rfl:e = .returned (.tuple #[.agg #[.int .i64 3,.bool false,.int .i64 3,.slice VA 0 vc],.int .i64 0]):=he;clear hro;have HKc:=Lib.hid (HKc.out.later hb9);have RX:=Lib.hid (RX.out.later hb9);have RS2:=Lib.hid (RS2.out.later hb9);clear hb9;clear c0 c1 c2;obtain⟨h,hh⟩:∃ g,g=v4.heap.size:=⟨_,rfl⟩;obtain⟨v5,hv5⟩:∃ W,W=v4.alloc (.cells #[.int .i64 3,.bool false,.int .i64 3,.slice VA 0 vc] 51):=⟨_,rfl⟩
 have hb9:Below v4.heap.size v4 v5:=by rw[hv5];exact Dt.box_below _ _ _
 have b0:v5.cell? ⟨h,0,none⟩=some (.int .i64 3):=by rw[hv5,hh];go_simp
 have b1:v5.cell? ⟨h,1,none⟩=some (.bool false):=by rw[hv5,hh];go_simp
 have b2:v5.cell? ⟨h,2,none⟩=some (.int .i64 3):=by rw[hv5,hh];go_simp
 have b3:v5.cell? ⟨h,3,none⟩=some (.slice VA 0 vc):=by rw[hv5,hh];go_simp
 have HKc:=Lib.hid (HKc.out.later hb9);have RX:=Lib.hid (RX.out.later hb9);have RS2:=Lib.hid (RS2.out.later hb9);clear hb9;have HKc:=Lib.hid ((((HKc.out.cons_of b3).cons_of b2).cons_of b1).cons_of b0);have Hh:=Lib.hid hh;have Hv5:=Lib.hid hv5;clear hh hv5 b0 b1 b2 b3;obtain⟨c0,c1,c2,c3,c4,c5,c6,-⟩:=HKc.out.cj;rw[Hv5.out]at c0 c1 c2 c3 c4 c5 c6;rw[Hh.out]at c0 c1 c2 c3;go_wp2_with fail;go_ret;exact⟨by first | rfl | simp,by have h:=HKc.out.below;first | exact h | (rw[Hv5.out]at h;exact h)⟩
end Cs
end Go.Proofs.YtgeafpaognhokaaGreat
namespace Go.Proofs.YtgeafpaognhokaaGreat
open Go.ChangeShapes Go.WideShapes Go.ChangeAt Go.RowKit
namespace Cs
open Tr Cx Sp Rw Classical
set_option maxRecDepth 100000
theorem slice_of_trod {H:Type} {enc:TypeId×Value→H} {W:World} {fuel:Nat} {u:Value} {y:DataW H×List MemPlace} (h:DataW.trod enc Tryz.prog W 0 (fun _=>true) true fuel 25 [u]=some y):∃ (A:Option Addr) (n c:Nat) (l:List ByteArray),u = .slice A n c∧Rd W W.heap.size 1 A n c (Tr.strs l):=by
 obtain⟨A,n,c,rfl⟩:∃ A n c,u = .slice A n c:=by
  rcases DataW.trod_slice Tryz.underlying25 h with ⟨e,_⟩ | ⟨a,len,cap,_,_,_,_,e,_⟩ <;> exact⟨_,_,_,by simpa using e⟩
 obtain⟨l,_,h2,_⟩:=strs_of_trod (A:=A) (len:=n) (cap:=c) h;exact⟨A,n,c,l,rfl,h2⟩
theorem op_of_trod {H:Type} {enc:TypeId×Value→H} {W:World} {fuel:Nat} {cs:List Value} {y:DataW H×List MemPlace} (h:DataW.trod enc Tryz.prog W 0 (fun _=>true) true fuel 27 cs=some y):∃ (A:Option Addr) (n c:Nat) (o:OpM),cs=[.slice A n c,.int .i64 o.act,.string o.s,.int .i64 o.n]∧Rd W W.heap.size 1 A n c (Tr.strs o.path):=by
 obtain⟨f0,f1,f2,f3,hT,t0,o0,t1,o1,t2,o2,t3,o3⟩:∃ f0 f1 f2 f3:Field,Tryz.prog.underlying 27=some (.struct #[f0,f1,f2,f3])∧f0.type=25∧f0.offset=0∧f1.type=3∧f1.offset=1∧f2.type=9∧f2.offset=2∧f3.type=2∧f3.offset=3:=⟨_,_,_,_,Tryz.underlying27,rfl,rfl,rfl,rfl,rfl,rfl,rfl,rfl⟩;obtain⟨xs,n,rfl,rfl,hlen,hxl,hfs⟩:=DataW.trod_struct hT h
 have hc4:Tryz.prog.cellsOf 27=4:=by kernel_rfl
 have hcs:Tryz.prog.cellsOf 25=1:=by kernel_rfl
 have hci:Tryz.prog.cellsOf 3=1:=by kernel_rfl
 have hct:Tryz.prog.cellsOf 9=1:=by kernel_rfl
 have hcj:Tryz.prog.cellsOf 2=1:=by kernel_rfl
 rw[hc4]at hlen
 obtain⟨c0,c1,c2,c3,rfl⟩:∃ c0 c1 c2 c3,cs=[c0,c1,c2,c3]:=by
  match cs,hlen with
  | [c0,c1,c2,c3],_=>exact⟨_,_,_,_,rfl⟩
 obtain⟨x0,x1,x2,x3,rfl⟩:∃ x0 x1 x2 x3,xs=[x0,x1,x2,x3]:=by
  match xs,hxl with
  | [x0,x1,x2,x3],_=>exact⟨_,_,_,_,rfl⟩
 have h0:=hfs 0 f0 rfl;have h1:=hfs 1 f1 rfl;have h2:=hfs 2 f2 rfl;have h3:=hfs 3 f3 rfl;rw[t0,o0,hcs]at h0;rw[t1,o1,hci]at h1;rw[t2,o2,hct]at h2;rw[t3,o3,hcj]at h3
 simp at h0 h1 h2 h3
 obtain⟨A,n,c,l,rfl,hr⟩:=slice_of_trod h0;obtain⟨a,e1,_,_⟩:=DataW.trod_int Tryz.underlying3 h1;obtain⟨s,e2,_,_⟩:=DataW.trod_string Tryz.underlying9 h2;obtain⟨v,e3,_,_⟩:=DataW.trod_int Tryz.underlying2 h3
 simp at e1 e2 e3
 subst e1;subst e2;subst e3;exact⟨A,n,c,⟨l,a,s,v⟩,rfl,hr⟩
end Cs
end Go.Proofs.YtgeafpaognhokaaGreat
