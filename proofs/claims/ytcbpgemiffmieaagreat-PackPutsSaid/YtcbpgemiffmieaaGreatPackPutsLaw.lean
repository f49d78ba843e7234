/- Proved: the law PackPuts answers true for every list of things that can be handed in, and leaves its arguments as they were. Conditions: none. -/
import Derived.Test.YtcbpgemiffmieaaGreatG00
import Derived.Test.YtcbpgemiffmieaaGreatG60
open Go.ChangeShapes Go.WideShapes Go.ChangeAt Go.RowKit
namespace Go.Proofs.YtcbpgemiffmieaaGreat
namespace lawPackPuts
open Tr Cx Cs Sp Rw Classical Pk Codec
set_option maxRecDepth 100000 in
set_option maxHeartbeats 4000000 in
theorem walk_any (l:List Thg) (n:Nat) (A:Option Addr) (c:Nat) (w:World) (hl:ThRd w w.heap.size A n c l) :
  Calls Tryz.prog 3 #[.slice A n c] w fun e w'=>e = .returned (.bool true)∧Below w.heap.size w w':=by
 have HKc:Hid (Kept [] w w):=Kept.nil_of (Below.refl _ _);have RT:Hid (ThRd w w.heap.size A n c l):=hl;clear hl;go_enter Tryz.func3,Tryz.ntmps3;go_wp2_with fail;refine (awake16 w).mono ?_;rintro e v1 ⟨rfl,hb9⟩;have HKc:=Lib.hid (HKc.out.later hb9);have RT:=Lib.hid (RT.out.later hb9);clear hb9;go_wp2_with fail;refine (few_any16 l n A c v1 RT.out).mono ?_;rintro e v2 ⟨b9,rfl,hfw,hb9⟩;have HFW:=Lib.hid hfw.out;clear hfw;have HKc:=Lib.hid (HKc.out.later hb9);have RT:=Lib.hid (RT.out.later hb9);clear hb9
 cases b9 with
 | false=>
  go_wp2_with fail;refine (awake16 _).mono ?_;rintro e v99 ⟨rfl,hb9⟩;have HKc:=Lib.hid (HKc.out.later hb9);clear hb9;go_wp2_with fail;go_ret;exact⟨by first | rfl | simp,HKc.out.below⟩
 | true=>
  have HF:=Lib.hid (HFW.out rfl);have hn12:n≤12:=HF.out.1
  have HLE:Hid (∀ j,((l.take j).flatMap thB).length≤60000):=fun j=>by
   have h1:=flat_le (f:=thB) (m:=5000) (l:=l.take j) fun y hy=>th_le (RT.out.2.2 y (List.mem_of_mem_take hy)) (HF.out.2 y (List.mem_of_mem_take hy));have h2:=HF.out.1;have h3:=RT.out.1
   have h4:(l.take j).length≤l.length:=by rw[List.length_take];omega
   omega
  obtain⟨B,hB⟩:∃ B,B=v2.heap.size:=⟨_,rfl⟩;obtain⟨a,ha⟩:∃ a,a=v2.heap.size:=⟨_,rfl⟩;obtain⟨WA,hWA⟩:∃ W,W=v2.alloc (.cells #[.slice none 0 0,.bool false] 27):=⟨_,rfl⟩
  have hbA:Below v2.heap.size v2 WA:=by rw[hWA];exact Dt.box_below _ _ _
  have HO:Hid (OutC WA [] B a none [] false):=⟨Pk.out_new v2 WA a ha hWA,by omega,(fun k hk=>by cases hk),(by simp)⟩
  have HRT:Hid (ThRd WA B A n c l):=by unfold Hid;rw[hB];exact RT.out.below hbA
  have HBA:Hid (Below w.heap.size w WA):=HKc.out.below.trans (hbA.mono HKc.out.below.size)
  have HBW:Hid (w.heap.size≤B):=by rw[hB];exact HKc.out.below.size
  have HWA:=Lib.hid hWA;have Ha:=Lib.hid ha;clear hWA ha hbA hB HFW;go_wp2_with fail;rw[← HWA.out]
  try rw[← Ha.out]
  go_loopw [4,18] (fun v i wr=>∃ (k:Nat) (v1:Value) (acc:List UInt8) (g:Option Nat),i = .int .i64 k∧v1=v∧k≤n∧Hid (acc=(l.take k).flatMap thB)∧Hid (OutC wr [] B a g acc false)∧Hid (wr.ownsRow B 5 1 v1 acc.length (u8s acc))∧Hid (Apart v1 a g)∧Hid (Below B WA wr)) (fun _ i _=>n-(intOf i).toNat)
  case atStart=>exact⟨0,_,[],none,rfl,rfl,Nat.zero_le _,rfl,HO,World.ownsRow_nil _ _ _ _,(fun z hz=>by cases hz),Below.refl _ _⟩
  case round=>
   obtain⟨k,v,acc,g,rfl,rfl,hk,HACC,HOC,HROW,HAP,HB⟩:=hrel
   by_cases hlt:k<n
   ·have hkl:k<l.length:=by rw[HRT.out.1];exact hlt
    obtain⟨b,o,rfl,hb,hc⟩:=rd_elem thC_len (l:=l) HRT.out.2.1 hlt;have c0:=(HB.out.cell (p:=⟨b,o+k*13+0,none⟩) hb).trans (hc k hkl 0 _ rfl);have c1:=(HB.out.cell (p:=⟨b,o+k*13+1,none⟩) hb).trans (hc k hkl 1 _ rfl);have c2:=(HB.out.cell (p:=⟨b,o+k*13+2,none⟩) hb).trans (hc k hkl 2 _ rfl);have c3:=(HB.out.cell (p:=⟨b,o+k*13+3,none⟩) hb).trans (hc k hkl 3 _ rfl);have c4:=(HB.out.cell (p:=⟨b,o+k*13+4,none⟩) hb).trans (hc k hkl 4 _ rfl);have c5:=(HB.out.cell (p:=⟨b,o+k*13+5,none⟩) hb).trans (hc k hkl 5 _ rfl);have c6:=(HB.out.cell (p:=⟨b,o+k*13+6,none⟩) hb).trans (hc k hkl 6 _ rfl);have c7:=(HB.out.cell (p:=⟨b,o+k*13+7,none⟩) hb).trans (hc k hkl 7 _ rfl);have c8:=(HB.out.cell (p:=⟨b,o+k*13+8,none⟩) hb).trans (hc k hkl 8 _ rfl);have c9:=(HB.out.cell (p:=⟨b,o+k*13+9,none⟩) hb).trans (hc k hkl 9 _ rfl)
    have c10:=(HB.out.cell (p:=⟨b,o+k*13+10,none⟩) hb).trans (hc k hkl 10 _ rfl);have c11:=(HB.out.cell (p:=⟨b,o+k*13+11,none⟩) hb).trans (hc k hkl 11 _ rfl);have c12:=(HB.out.cell (p:=⟨b,o+k*13+12,none⟩) hb).trans (hc k hkl 12 _ rfl);obtain⟨x,hx⟩:∃ x,x=l[k]:=⟨_,rfl⟩;have HOK:=Lib.hid ((HRT.out.2.2 x (hx▸List.getElem_mem hkl)).below HB.out);have HSM:Hid (Small x):=HF.out.2 x (hx▸List.getElem_mem hkl);have hsuc:=flat_take thB hkl;rw[← hx]at hsuc
    have HSUC:Hid (acc++thB x=(l.take (k+1)).flatMap thB):=by unfold Hid;rw[hsuc,HACC.out]
    have h6:(acc++thB x).length≤60000:=by rw[HSUC.out];exact HLE.out (k+1)
    rw[← hx]at c0 c1 c2 c3 c4 c5 c6 c7 c8 c9 c10 c11 c12;rw[Nat.add_zero]at c0;clear hc hx hsuc HACC;go_wp2_with fail;refine (put_any16 x HOK.out HSM.out HOC.out).mono ?_;rintro e w2 ⟨Aq,mq,cq,rfl,hm9,ho9,hpt⟩;obtain⟨v',w',g',Hrun,HOC2,HROW2,HAP2,hb2⟩:=puts_step HOC.out HROW.out HAP.out hpt.out hm9.out ho9.out h6;have HB2:=Lib.hid (HB.out.trans hb2.out);clear hm9 ho9 hpt HOC HROW HAP hb2 c0 c1 c2 c3 c4 c5 c6 c7 c8 c9 c10 c11 c12;go_wp2_with (at_builtin;refine Lib.wpList_append_run _ rfl _ _ _ _ rfl _ _ rfl rfl _ _ Hrun.out ?_);go_roundw
    case rel=>exact⟨k+1,v',acc++thB x,g',by go_num,rfl,by omega,HSUC,HOC2,HROW2,HAP2,HB2⟩
    case measure=>simp[intOf];omega
   ·have hke:k=n:=by omega
    have hle:acc.length≤60000:=by rw[HACC.out];exact HLE.out k
    obtain⟨A5,c5,rfl,ho5⟩:=Own.of_row HROW.out (u8s_one _);have hend:=end_any a g acc false wr HOC.out.at_;have HRA:Hid (Rd wr wr.heap.size 1 A5 acc.length c5 (u8s acc)):=ho5.rd;have HE:=Lib.hid hend;have HBF:Hid (Below w.heap.size w wr):=HBA.out.trans (HB.out.mono HBW.out);obtain⟨m,hm⟩:∃ m,m=acc.length:=⟨_,rfl⟩;rw[← hm]at HRA hle;have HM:=Lib.hid hm;have f6:decide ((60000:Int)<(m:Int))=false:=decide_eq_false (by omega);clear hend ho5 HROW HAP HOC HB HACC hm;go_wp2_with fail;refine HE.out.mono ?_;unfold EndIs;rw[← HM.out];rintro e w3 ⟨hb3,⟨h,_⟩ | ⟨_,A7,c7,rfl,ho7⟩⟩
    ·cases h
    ·have HR7:Hid (Rd w3 w3.heap.size 1 A7 m c7 (u8s acc)):=ho7.rd
     have HR5:Hid (Rd w3 w3.heap.size 1 A5 m c5 (u8s acc)):=HRA.out.later hb3;have hs1:=run_str (P:=Tryz.prog) w3 25 9 5 Tryz.underlying25 Tryz.underlying5 Tryz.underlying9 HR7.out;have hs2:=run_str (P:=Tryz.prog) w3 25 9 5 Tryz.underlying25 Tryz.underlying5 Tryz.underlying9 HR5.out;have HB3:=Lib.hid (HBF.out.trans (hb3.mono HBF.out.size));clear hb3 ho7;go_wp2;go_ret;exact⟨by first | rfl | simp,HB3.out⟩
set_option maxRecDepth 100000 in
theorem lifted (os:Os) (started:os.Started) (H:Type) (enc:TypeId×Value→H) :
  ReturnsInHanded {} Tryz.checked os 3 .any (Rows.packPutsSpec.pre6 enc Tryz.prog Tryz.f3 Rows.packPutsRow.domain false) (Rows.packPutsSpec.post enc Tryz.prog Tryz.f3 false true false false):=by
 refine returnsInHanded_of_change_sized (C:=Tryz.checked) own started (by kernel_rfl) Tryz.func3
  (ChangeSpec.witness6 (enc:=enc) (C:=Tryz.checked) false ⟨#[],#[.slice none 0 0],[]⟩ 8 (by kernel_rfl) (by kernel_rfl) (by kernel_rfl) (by kernel_rfl)) ?_
 intro W base args ds gs before hval0 hW _ hsz0 _;have hval:∀ (j:Nat) t v,Tryz.f3.params[j]?=some t→args[j]?=some v→Value.okWide Tryz.prog W .any base t v:=hval0;have hW':=hW;obtain⟨p,q,hA0,hV,rfl,hfz,hnd⟩:=hW;have hA:DataW.TrodAll enc Tryz.prog W 0 (fun _=>true) true Tryz.f3.params.toList args.toList ds p:=hA0;rw[Tryz.params3]at hA hval;obtain⟨v0,d0,rfl,rfl,h0⟩:=trodAll_one hA;obtain⟨rfl,rfl⟩:=trodVars_none hV;have hsz:(DataW.weightsEach Tryz.prog (22::_) (d0::_)).all (· ≤ reachBytes)=true:=hsz0;obtain⟨hw0,hsz⟩:=Tr.weights_head hsz;obtain⟨A0,n0,c0,rfl⟩:=okWide_slice Tryz.underlying22 (hval 0 22 v0 rfl rfl);obtain⟨f0,hf0⟩:=h0;obtain⟨l0,hl0⟩:=Pk.things_of_trod hf0 hw0
 refine (walk_any l0 n0 A0 c0 W hl0).mono fun e W' ⟨he,hb⟩=>?_;subst he;exact⟨_,rfl,law_post hW' (by kernel_rfl) rfl rfl rfl hb⟩
theorem proved:Rows.PackPutsSaid:=
 OpenClaim.holds_of_wide 3 Tryz.f3 rfl rfl rfl rfl rfl rfl rfl ⟨rfl,rfl,rfl,rfl,rfl⟩ rfl rfl rfl rfl rfl (by kernel_rfl) Tryz.func3 (by kernel_rfl)
  (of_decide_eq_true (by kernel_rfl)) (by unfold Func.isWrapper;first | (rw[if_pos (by decide +kernel)];kernel_rfl) | (rw[if_neg (by decide +kernel)];exact⟨rfl,rfl⟩))
  (fun os started H enc _=>lifted os started H enc)
#print axioms proved
end lawPackPuts
end Go.Proofs.YtcbpgemiffmieaaGreat
