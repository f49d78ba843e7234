/- Proved: the law PackLong answers true for every number and text that can be handed in, and leaves its arguments as they were. Conditions: none. -/
import Derived.Test.YtcbpgemiffmieaaG00
import Derived.Test.YtcbpgemiffmieaaG60
import Derived.Test.YtcbpgemiffmieaaG01
open Go.ChangeShapes Go.WideShapes Go.ChangeAt Go.RowKit
namespace Go.Proofs.Ytcbpgemiffmieaa
namespace lawPackLong
open Tr Cx Cs Sp Rw Pk Codec
theorem wf_u16 {n:Int} (h:(Lit.int .u16 n).wf=true):0≤n∧n≤65535:=by
 have e1:IntKind.u16.min=0:=by decide
 have e2:IntKind.u16.max=65535:=by decide
 simp[Lit.wf,e1,e2]at h;exact h
set_option maxRecDepth 100000 in
set_option maxHeartbeats 4000000 in
theorem walk_any (n:Int) (s:ByteArray) (w:World) (hn:0≤n∧n≤65535) :
  Calls Try.prog 3 #[.int .u16 n,.string s] w fun e w'=>e = .returned (.bool true)∧Below w.heap.size w w':=by
 have HKc:Hid (Kept [] w w):=Kept.nil_of (Below.refl _ _);go_enter Try.func3,Try.ntmps3;go_wp2_with fail;refine (awake16 w).mono ?_;rintro e v1 ⟨rfl,hb9⟩;have HKc:=Lib.hid (HKc.out.later hb9);clear hb9
 by_cases h3:30<s.size
 ·have f4:decide ((30:Int)<(s.size:Int))=true:=decide_eq_true (by omega)
  go_wp2_with fail;refine (awake16 _).mono ?_;rintro e v99 ⟨rfl,hb9⟩;have HKc:=Lib.hid (HKc.out.later hb9);clear hb9;go_wp2_with fail;go_ret;exact⟨by first | rfl | simp,HKc.out.below⟩
 have f4:decide ((30:Int)<(s.size:Int))=false:=decide_eq_false (by omega)
 have hs:s.size≤30:=by omega
 obtain⟨M,hM⟩:∃ M:Nat,(M:Int)=n % 2001:=⟨(n % 2001).toNat,by omega⟩
 have hM9:M≤2000:=by omega
 have fr:n % 2001=(M:Int):=hM.symm
 have fw:IntKind.u16.wrap (M:Int)=(M:Int):=by have h:=IntWalk.u16_in (M:Int) (by omega);exact h
 have HBV:Hid (Below w.heap.size w v1):=HKc.out.below;obtain⟨g,hg⟩:∃ g,g=v1.heap.size:=⟨_,rfl⟩;obtain⟨W,hW⟩:∃ W,W=v1.alloc (.cells #[.slice none 0 0,.slice none 0 0,.slice none 0 0] 31):=⟨_,rfl⟩
 have hbW:Below v1.heap.size v1 W:=by rw[hW];exact Dt.box_below _ _ _
 have HK0:Hid (Kept [(⟨g,0,none⟩,.slice none 0 0),(⟨g,1,none⟩,.slice none 0 0),(⟨g,2,none⟩,.slice none 0 0)] v1 W):=by
  have h0:=Kept.nil_of hbW
  refine ((h0.cons_of ?_).cons_of ?_).cons_of ?_ <;> (rw[hW,hg];go_simp)
 have HF0:Hid (Free g W):=⟨by rw[hW,hg];simp,fun j=>by rw[hW,hg];go_simp⟩
 have hszW:W.heap.size=g+1:=by rw[hW,hg];simp
 have hgV:v1.heap.size≤g:=by omega
 have HN:=Lib.hid (refnum_any (M:Int) W (by omega) (by omega));have HW:=Lib.hid hW;have Hg:=Lib.hid hg;have HSZ:=Lib.hid hszW;clear h3 hM hbW hW hg hszW;go_wp2_with fail;rw[← HW.out]
 try rw[← Hg.out]
 obtain⟨L0,hL0⟩:∃ m,m=(numB (M:Int)).length:=⟨_,rfl⟩
 have hL9:L0≤10:=by rw[hL0];exact num_le ⟨by omega,by omega⟩
 refine HN.out.mono ?_;unfold NewRow;rw[← hL0];rintro e u1 ⟨A1,e1,rfl,_,hb9⟩;have HK1:=Lib.hid (HK0.out.later hb9);have HF1:=Lib.hid (HF0.out.later hb9);have HL0:=Lib.hid hL0;have hg1:g+1≤u1.heap.size:=HF1.out.1
 have hx0:(3:Int)+(L0:Int)-1=(longW s M 0:Nat):=by
  unfold longW;rw[← hL0];simp;omega
 have HX0:=Lib.hid hx0;clear hb9 HN HK0 HF0 hL0 HSZ hx0;go_wp2_with fail
 go_loopw [7,30] (fun v i wr=>∃ (k:Nat) (x:Int) (A:Option Addr) (cp:Nat),i = .int .i64 k∧v = .int .i64 x∧k≤M∧Hid (x=(longW s M k:Nat))∧Hid (Own wr (g+1) 37 4 A k cp (entsC (longE s k)))∧Hid (Kept [(⟨g,0,none⟩,.slice A k cp),(⟨g,1,none⟩,.slice none 0 0),(⟨g,2,none⟩,.slice none 0 0)] v1 wr)∧Hid (Free g wr)) (fun _ i _=>M-(intOf i).toNat)
 case atStart=>exact⟨0,_,none,0,rfl,rfl,Nat.zero_le _,HX0,⟨World.ownsRow_nil _ _ _ _,by simp[entsC,longE]⟩,HK1,HF1⟩
 case round=>
  obtain⟨k,x,A,cp,rfl,rfl,hk,HX,HOW,HKW,HFW⟩:=hrel
  by_cases hlt:k<M
  ·have hki:(k:Int)<(M:Int):=by omega
   have hxb:0≤x∧x≤200000:=by
    have h1:=longW_le (m:=M) (k:=k) hs hM9 (by omega);have h2:=HX.out;omega
   obtain⟨wb,hwb⟩:∃ W,W=wr.alloc (.cells #[.int .i64 1,.int .i64 ((k:Int)+1),.string s,.int .i64 (k:Int)] 37):=⟨_,rfl⟩
   have hbB:Below wr.heap.size wr wb:=by rw[hwb];exact Dt.box_below _ _ _
   have HKB:=Lib.hid (HKW.out.later hbB);have HFB:=Lib.hid (HFW.out.later hbB);have HOB:=Lib.hid (own_later HOW.out hbB);have hgb:g+1≤wb.heap.size:=HFB.out.1;obtain⟨A3,c3,w3,hrun,how3,hb3⟩:=push entC_len entC_one (t:=24) Try.underlying24 infoE rfl (by omega) (by omega) wb (g+1) (wr.heap.size+1) (by rw[hwb];simp) hgb (.slice A k cp) (longE s k) (by rw[longE_len];exact HOB.out.row) ⟨1,(k:Int)+1,s,(k:Int)⟩ #[.int .i64 1,.int .i64 ((k:Int)+1),.string s,.int .i64 (k:Int)] rfl (by rw[longE_len];omega);rw[← longE_succ,longE_len]at hrun how3;have q0:=(hb3.cell (p:=⟨g,0,none⟩) (Nat.lt_succ_self g)).trans HKB.out.c0;have q1:=(hb3.cell (p:=⟨g,1,none⟩) (Nat.lt_succ_self g)).trans HKB.out.c1;have q2:=(hb3.cell (p:=⟨g,2,none⟩) (Nat.lt_succ_self g)).trans HKB.out.c2;have f0:=(hb3.frozen (p:=⟨g,0,none⟩) (Nat.lt_succ_self g)).trans (HFB.out.2 0)
   obtain⟨w4,hw4⟩:∃ W,W=w3.setCell ⟨g,0,none⟩ (.slice A3 (k+1) c3):=⟨_,rfl⟩
   have HK4:Hid (Kept [(⟨g,0,none⟩,.slice A3 (k+1) c3),(⟨g,1,none⟩,.slice none 0 0),(⟨g,2,none⟩,.slice none 0 0)] v1 w4):=by
    have h1:=Kept.nil_of ((HKB.out.below.trans (hb3.mono (by omega))).setCell (p:=⟨g,0,none⟩) hgV (.slice A3 (k+1) c3));rw[← hw4]at h1
    refine ((h1.cons_of ?_).cons_of ?_).cons_of ?_ <;> (rw[hw4];go_simp)
   have HF4:Hid (Free g w4):=by
    unfold Hid;rw[hw4];exact Free.set (show Free g w3 from⟨Nat.lt_of_lt_of_le HFB.out.1 hb3.size,fun j=>(hb3.frozen (p:=⟨g,j,none⟩) (Nat.lt_succ_self g)).trans (HFB.out.2 j)⟩) _ _
   have HO4:Hid (Own w4 (g+1) 37 4 A3 (k+1) c3 (entsC (longE s (k+1)))):=by
    unfold Hid;rw[hw4];exact how3.set_below (a:=⟨g,0,none⟩) (Nat.lt_succ_self g) _
   have k0:=HKB.out.c0;rw[hwb]at k0;have Hrun:=Lib.hid hrun;rw[hwb]at Hrun;have HWB:=Lib.hid hwb;have HW4:=Lib.hid hw4;clear hbB HKW HFW HOW HKB HFB HOB hrun how3 hb3 hwb hw4;go_wp2_with (at_builtin;refine Lib.wpList_append_run _ rfl _ _ _ _ rfl _ _ rfl rfl _ _ Hrun.out ?_);rw[← HW4.out];clear k0 q0 q1 q2 f0;obtain⟨L1,hL1⟩:∃ m,m=(numB ((k:Int)+1)).length:=⟨_,rfl⟩
   have hL1b:L1≤10:=by rw[hL1];exact num_le ⟨by omega,by omega⟩
   refine (refnum_any ((k:Int)+1) w4 (by omega) (by omega)).mono ?_;unfold NewRow;rw[← hL1];rintro e u5 ⟨A5,e5,rfl,_,hb5⟩;have HK5:=Lib.hid (HK4.out.later hb5);have HF5:=Lib.hid (HF4.out.later hb5);have HO5:=Lib.hid (own_later HO4.out hb5);have HL1:=Lib.hid hL1;clear hb5 HK4 HF4 HO4 hL1;go_wp2_with fail;obtain⟨L2,hL2⟩:∃ m,m=(textB s.data.toList).length:=⟨_,rfl⟩
   have hL2t:L2=(txtB s).length:=by rw[hL2];congr 1
   have hL2b:L2≤40:=by rw[hL2t];have:=txt_le (s:=s) (by omega);omega
   refine (reftext_any s u5 (by omega)).mono ?_;unfold NewRow;rw[← hL2];rintro e u6 ⟨A6,e6,rfl,_,hb6⟩;have HK6:=Lib.hid (HK5.out.later hb6);have HF6:=Lib.hid (HF5.out.later hb6);have HO6:=Lib.hid (own_later HO5.out hb6);have HL2:=Lib.hid hL2t;clear hb6 HK5 HF5 HO5 hL2 hL2t;go_wp2_with fail;obtain⟨L3,hL3⟩:∃ m,m=(numB (k:Int)).length:=⟨_,rfl⟩
   have hL3b:L3≤10:=by rw[hL3];exact num_le ⟨by omega,by omega⟩
   refine (refnum_any (k:Int) u6 (by omega) (by omega)).mono ?_;unfold NewRow;rw[← hL3];rintro e u7 ⟨A7,e7,rfl,_,hb7⟩;have HK7:=Lib.hid (HK6.out.later hb7);have HF7:=Lib.hid (HF6.out.later hb7);have HO7:=Lib.hid (own_later HO6.out hb7)
   have HXN:Hid (x+1+(L1:Int)+(L2:Int)+(L3:Int)=(longW s M (k+1):Nat)):=by
    unfold Hid;rw[longW_succ,HX.out,HL1.out,HL2.out,hL3];omega
   clear hb7 HK6 HF6 HO6 hL3 HX;go_wp2_with fail;go_roundw
   case rel=>exact⟨k+1,_,A3,c3,by go_num,rfl,by omega,HXN,HO7,HK7,HF7⟩
   case measure=>simp[intOf];omega
  ·have hke:k=M:=by omega
   subst hke
   have hxb:0≤x∧x≤200000:=by
    have h1:=longW_le (m:=k) (k:=k) hs hM9 (by omega);have h2:=HX.out;omega
   have HRK:Hid (RK (longT s k,longC k)):=longK_right hs hM9;have HLB:=Lib.hid (long_bytes s k);obtain⟨LL,hLL⟩:∃ m,m=(causB (longT s k,longC k)).length:=⟨_,rfl⟩;rw[← hLL]at HLB;have HLLL:=Lib.hid hLL;clear hLL
   by_cases h0:k=0
   ·subst h0
    have hxe:x=(LL:Int):=by have h1:=HX.out;have h2:=HLB.out;rw[h1,h2];simp
    subst hxe
    have HT:Hid (RdT wr wr.heap.size (longT s 0) ⟨A,0,cp⟩ ⟨none,0,0⟩):=by
     unfold Hid longT;rw[rdT_mk];exact⟨longE_len _ _,HOW.out.rd,rfl,[],Rd.nil _,fun i hi=>by simp at hi⟩
    obtain⟨j0,j1,j2,-⟩:=HKW.out.cj;have HBF:=Lib.hid (HBV.out.trans (HKW.out.below.mono HBV.out.size));go_wp2_with fail;refine (bytes_any (longT s 0) (longC 0) A none none 0 0 cp 0 0 0 wr true (rightKB_iff.2 HRK.out) (by rw[longT_nodes];omega) rfl (by omega) HT.out (Rd.nil _)).mono ?_;unfold BytesP;rw[← HLLL.out];rintro e u9 ⟨hb9,⟨h,_⟩ | ⟨_,hbig,rfl⟩ | ⟨_,hbig,A9,e9,rfl,_⟩⟩
    ·cases h
    ·have f6:decide ((60000:Int)<(LL:Int))=true:=decide_eq_true (by omega)
     have HB9:=Lib.hid (HBF.out.trans (hb9.mono HBF.out.size));clear hb9;go_wp2;go_ret;exact⟨by first | rfl | simp,HB9.out⟩
    ·have f6:decide ((60000:Int)<(LL:Int))=false:=decide_eq_false (by omega)
     have HB9:=Lib.hid (HBF.out.trans (hb9.mono HBF.out.size));clear hb9;go_wp2;go_ret;exact⟨by first | rfl | simp,HB9.out⟩
   ·have f0:decide ((0:Int)<(k:Int))=true:=decide_eq_true (by omega)
    have fk:(0:Int)<(k:Int):=by omega
    obtain⟨q,hq⟩:∃ g,g=wr.heap.size:=⟨_,rfl⟩;obtain⟨wb,hwb⟩:∃ W,W=wr.alloc (.cells #[.int .i64 1,.int .i64 1,.int .i64 (k:Int)] 40):=⟨_,rfl⟩
    have hbB:Below wr.heap.size wr wb:=by rw[hwb];exact Dt.box_below _ _ _
    have HKB:=Lib.hid (HKW.out.later hbB);have HFB:=Lib.hid (HFW.out.later hbB);have HOB:=Lib.hid (own_later HOW.out hbB)
    have hgq:g<q:=by rw[hq];exact HFW.out.1
    obtain⟨w4,hw4⟩:∃ W,W=wb.setCell ⟨g,2,none⟩ (.slice (some ⟨q,0,none⟩) 1 1):=⟨_,rfl⟩;obtain⟨q0,q1,q2,-⟩:=HKB.out.cj;have f2:=HFB.out.2 2
    have HK4:Hid (Kept [(⟨g,0,none⟩,.slice A k cp),(⟨g,1,none⟩,.slice none 0 0),(⟨g,2,none⟩,.slice (some ⟨q,0,none⟩) 1 1)] v1 w4):=by
     have h1:=Kept.nil_of (HKB.out.below.setCell (p:=⟨g,2,none⟩) hgV (.slice (some ⟨q,0,none⟩) 1 1));rw[← hw4]at h1;clear hwb hq
     refine ((h1.cons_of ?_).cons_of ?_).cons_of ?_ <;> (rw[hw4];go_simp)
    have HO4:Hid (Own w4 (g+1) 37 4 A k cp (entsC (longE s k))):=by
     unfold Hid;rw[hw4];exact HOB.out.set_below (a:=⟨g,2,none⟩) (Nat.lt_succ_self g) _
    have hne:¬q=g:=by omega
    have hne2:¬g=q:=by omega
    have hne3:¬wr.heap.size=g:=by omega
    have hne4:¬g=wr.heap.size:=by omega
    have HRC:Hid (Rd w4 w4.heap.size 3 (some ⟨q,0,none⟩) 1 1 (spsC (longC k))):=by
     have e0:w4.cell? ⟨q,0+0,none⟩=some (.int .i64 1):=by rw[hw4,hwb,hq];go_simp
     have e1:w4.cell? ⟨q,0+1,none⟩=some (.int .i64 1):=by rw[hw4,hwb,hq];go_simp
     have e2:w4.cell? ⟨q,0+2,none⟩=some (.int .i64 (k:Int)):=by rw[hw4,hwb,hq];go_simp
     have hqs:q<w4.heap.size:=by rw[hw4,hwb,hq];simp[World.setCell]
     unfold Hid longC;rw[if_neg h0];refine⟨rfl,Nat.le_refl _,fun u hu=>?_,fun _=>⟨_,_,rfl,hqs,fun j u hu=>?_⟩⟩
     ·simp[spsC,spC]at hu
      rcases hu with rfl | rfl | rfl <;> rfl
     ·match j,hu with
      | 0,hu=>injection hu with hu;rw[← hu];exact e0
      | 1,hu=>injection hu with hu;rw[← hu];exact e1
      | 2,hu=>injection hu with hu;rw[← hu];exact e2
      | j+3,hu=>cases hu
    have m2:=HKB.out.c2;have n2:=HFB.out.2 2;rw[hwb]at m2 n2;have HWB:=Lib.hid hwb;have HW4:=Lib.hid hw4;have Hq:=Lib.hid hq;clear hbB HKW HFW HOW HKB HFB HOB hwb hw4 hq q0 q1 q2 f2;go_wp2_with fail;rw[← HWB.out]
    try rw[← Hq.out]
    rw[← HW4.out];clear m2 n2;refine (refnum_any (k:Int) w4 (by omega) (by omega)).mono ?_;unfold NewRow;rw[← HL0.out];rintro e u5 ⟨A5,e5,rfl,_,hb5⟩;have HKW:=Lib.hid (HK4.out.later hb5);have HOW:=Lib.hid (own_later HO4.out hb5);have HRC:=Lib.hid (HRC.out.later hb5)
    have hxe:x+2+(L0:Int)=(LL:Int):=by
     have h1:=HX.out;have h2:=HLB.out;rw[if_neg h0,← HL0.out]at h2;omega
    clear hb5 HK4 HO4
    have hxe1:IntKind.i64.wrap (x+2+(L0:Int))=(LL:Int):=by rw[hxe];exact IntWalk.i64_in _ (by omega)
    have HT:Hid (RdT u5 u5.heap.size (longT s k) ⟨A,k,cp⟩ ⟨none,0,0⟩):=by
     unfold Hid longT;rw[rdT_mk];exact⟨longE_len _ _,HOW.out.rd,rfl,[],Rd.nil _,fun i hi=>by simp at hi⟩
    obtain⟨j0,j1,j2,-⟩:=HKW.out.cj;have HBF:=Lib.hid (HBV.out.trans (HKW.out.below.mono HBV.out.size));go_wp2_with fail;refine (bytes_any (longT s k) (longC k) A none (some ⟨q,0,none⟩) k 0 cp 0 1 1 u5 true (rightKB_iff.2 HRK.out) (by rw[longT_nodes];omega) (by unfold longC;rw[if_neg h0];rfl) (by omega) HT.out HRC.out).mono ?_;unfold BytesP;rw[← HLLL.out];rintro e u9 ⟨hb9,⟨h,_⟩ | ⟨_,hbig,rfl⟩ | ⟨_,hbig,A9,e9,rfl,_⟩⟩
    ·cases h
    ·have f6:decide ((60000:Int)<(LL:Int))=true:=decide_eq_true (by omega)
     have HB9:=Lib.hid (HBF.out.trans (hb9.mono HBF.out.size));clear hb9;go_wp2;go_ret;exact⟨by first | rfl | simp,HB9.out⟩
    ·have f6:decide ((60000:Int)<(LL:Int))=false:=decide_eq_false (by omega)
     have HB9:=Lib.hid (HBF.out.trans (hb9.mono HBF.out.size));clear hb9;go_wp2;go_ret;exact⟨by first | rfl | simp,HB9.out⟩
set_option maxRecDepth 100000 in
theorem lifted (os:Os) (started:os.Started) (H:Type) (enc:TypeId×Value→H) :
  ReturnsInHanded {} Try.checked os 3 .any (Rows.packLongSpec.pre6 enc Try.prog Try.f3 Rows.packLongRow.domain false) (Rows.packLongSpec.post enc Try.prog Try.f3 false true false false):=by
 refine returnsInHanded_of_change (C:=Try.checked) own started (by kernel_rfl) Try.func3
  (ChangeSpec.witness6 (enc:=enc) (C:=Try.checked) false ⟨#[],#[.int .u16 0,.string ByteArray.empty],[]⟩ 8 (by kernel_rfl) (by kernel_rfl) (by kernel_rfl) (by kernel_rfl)) ?_
 intro W base args ds gs before hval0 hW _ _;have hval:∀ (j:Nat) t v,Try.f3.params[j]?=some t→args[j]?=some v→Value.okWide Try.prog W .any base t v:=hval0;have hW':=hW;obtain⟨p,q,hA0,hV,rfl,hfz,hnd⟩:=hW;have hA:DataW.TrodAll enc Try.prog W 0 (fun _=>true) true Try.f3.params.toList args.toList ds p:=hA0;rw[Try.params3]at hA hval;obtain⟨v0,v1,d0,d1,p0,p1,rfl,rfl,rfl,h0,h1⟩:=trodAll_two hA;obtain⟨rfl,rfl⟩:=trodVars_none hV;obtain⟨x0,rfl,rfl,rfl,w0⟩:=open_int Try.underlying22 (hval 0 22 v0 rfl rfl) h0;obtain⟨s1,rfl,rfl,rfl,hs1⟩:=Go.ChangeMaps.open_string Try.underlying9 (hval 1 9 v1 rfl rfl) h1;refine (walk_any x0 s1 W (wf_u16 w0)).mono fun e W' ⟨he,hb⟩=>?_;subst he;exact⟨_,rfl,law_post hW' (by kernel_rfl) rfl rfl rfl hb⟩
theorem proved:Rows.PackLongSaid:=
 OpenClaim.holds_of_wide 3 Try.f3 rfl rfl rfl rfl rfl rfl rfl ⟨rfl,rfl,rfl,rfl,rfl⟩ rfl rfl rfl rfl rfl (by kernel_rfl) Try.func3 (by kernel_rfl)
  (of_decide_eq_true (by kernel_rfl)) (by unfold Func.isWrapper;first | (rw[if_pos (by decide +kernel)];kernel_rfl) | (rw[if_neg (by decide +kernel)];exact⟨rfl,rfl⟩))
  (fun os started H enc _=>lifted os started H enc)
#print axioms proved
end lawPackLong
end Go.Proofs.Ytcbpgemiffmieaa
