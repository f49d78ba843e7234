/- Proved: the law PackReads answers true for whatever bytes that can be handed in, and leaves its arguments as they were. Conditions: none. -/
import Derived.Test.YtcbpgemiffmieaaGreatG00
import Derived.Test.YtcbpgemiffmieaaGreatG60
import Derived.Test.YtcbpgemiffmieaaGreatG50
import Derived.Test.YtcbpgemiffmieaaGreatG01
open Go.ChangeShapes Go.WideShapes Go.ChangeAt Go.RowKit
namespace Go.Proofs.YtcbpgemiffmieaaGreat
namespace lawPackReads
open Tr Cx Cs Sp Rw Classical Pk Codec
theorem reads_both {bs rest:List UInt8} {u k:K} {er:Int} {b d:Bool} (h:ReadS bs u er) (h2:CausS bs k rest b) (hd:d=true↔(b=false∧rest=[])):(d=true→er=0∧u=k∧bs=causB k∧RK k)∧(d=false→er=2∧u=(none_,[])):=by
 refine⟨fun h1=>?_,fun h1=>?_⟩
 ·obtain⟨hb,hr⟩:=hd.1 h1
  rcases h2 with ⟨rfl,e,hk⟩ | ⟨rfl,_⟩
  ·rw[hr,List.append_nil]at e
   rcases h with ⟨e1,e2,_⟩ | ⟨_,_,hno⟩
   ·exact⟨e1,(caus_unlike u k).1 (e2.symm.trans e),e,hk⟩
   ·exact absurd e (hno k hk)
  ·cases hb
 ·rcases h with ⟨_,e2,hu⟩ | ⟨e1,e2,_⟩
  ·rcases h2 with ⟨rfl,e,_⟩ | ⟨_,_,_,hno⟩
   ·have h3:=pre_caus u k [] rest (by rw[List.append_nil,← e2,← e])
    have h4:=hd.2 ⟨rfl,h3.2.symm⟩;rw[h1]at h4
    cases h4
   ·exact absurd (show bs=causB u++[] by rw[List.append_nil];exact e2) (hno u [] hu)
  ·exact⟨e1,e2⟩
theorem known_few {k:K} {bs:List UInt8} (e:bs=causB k) (h:bs.length≤1000):nodes k.1≤1000∧k.2.length≤1000:=by
 have h1:=nodes_le k.1;have h2:=congrArg List.length e;have h3:=list_len (f:=spB) (l:=k.2) fun s _=>sp_pos s;unfold causB ctxB listB at h2;simp only[List.length_append]at h2;omega
set_option maxRecDepth 100000 in
set_option maxHeartbeats 4000000 in
theorem walk_any (bs:List UInt8) (n:Nat) (A:Option Addr) (c:Nat) (w:World) (hl:bs.length=n) (hr:Rd w w.heap.size 1 A n c (u8s bs)) :
  Calls Tryz.prog 7 #[.slice A n c] w fun e w'=>e = .returned (.bool true)∧Below w.heap.size w w':=by
 have HKc:Hid (Kept [] w w):=Kept.nil_of (Below.refl _ _);have RA:Hid (Rd w w.heap.size 1 A n c (u8s bs)):=hr;have HL:=Lib.hid hl;clear hr hl;go_enter Tryz.func7,Tryz.ntmps7;go_wp2_with fail;refine (awake16 w).mono ?_;rintro e v1 ⟨rfl,hb9⟩;have HKc:=Lib.hid (HKc.out.later hb9);have RA:=Lib.hid (RA.out.later hb9);clear hb9
 by_cases h3:1000<n
 ·have f4:decide ((1000:Int)<(n:Int))=true:=decide_eq_true (by omega)
  go_wp2_with fail;refine (awake16 _).mono ?_;rintro e v99 ⟨rfl,hb9⟩;have HKc:=Lib.hid (HKc.out.later hb9);clear hb9;go_wp2_with fail;go_ret;exact⟨by first | rfl | simp,HKc.out.below⟩
 ·have f4:decide ((1000:Int)<(n:Int))=false:=decide_eq_false (by omega)
  have HN:Hid (n≤1000):=by unfold Hid;omega
  clear h3;go_wp2_with fail;refine (read_any bs n A c v1 HL.out (by have:=HN.out;omega) (cap_few (by have:=HN.out;have:=HL.out;omega)) RA.out).mono ?_;rintro e v2 ⟨u,⟨xA,xn,xc⟩,⟨xB,xm,xd⟩,⟨xC,xo,xe⟩,er,rfl,hu1,hu2,hu3,hu4,hb9⟩;have hb9:=hb9.out;have HKc:=Lib.hid (HKc.out.later hb9);have RA:=Lib.hid (RA.out.later hb9);clear hb9;have RX:Hid (RdP v2 ⟨u,⟨xA,xn,xc⟩,⟨xB,xm,xd⟩,⟨xC,xo,xe⟩⟩):=⟨RdO.rd _ hu1.out,hu2.out,hu3.out.rd⟩;clear hu1 hu2 hu3;obtain⟨g,hg⟩:∃ g,g=v2.heap.size:=⟨_,rfl⟩;obtain⟨v3,hv3⟩:∃ W,W=v2.alloc (.cells #[.slice xA xn xc,.slice xB xm xd,.slice xC xo xe] 37):=⟨_,rfl⟩
  have hb9:Below v2.heap.size v2 v3:=by rw[hv3];exact Dt.box_below _ _ _
  have b0:v3.cell? ⟨g,0,none⟩=some (.slice xA xn xc):=by rw[hv3,hg];go_simp
  have b1:v3.cell? ⟨g,1,none⟩=some (.slice xB xm xd):=by rw[hv3,hg];go_simp
  have b2:v3.cell? ⟨g,2,none⟩=some (.slice xC xo xe):=by rw[hv3,hg];go_simp
  have HKc:=Lib.hid (HKc.out.later hb9);have RA:=Lib.hid (RA.out.later hb9);have RX:=Lib.hid (RX.out.later hb9);clear hb9;have HKc:=Lib.hid (((HKc.out.cons_of b2).cons_of b1).cons_of b0);have Hg:=Lib.hid hg;have Hv3:=Lib.hid hv3;clear hg hv3 b0 b1 b2;obtain⟨c0,c1,c2,-⟩:=HKc.out.cj;rw[Hv3.out]at c0 c1 c2;rw[Hg.out]at c0 c1 c2;go_wp2_with fail;rw[← Hg.out,← Hv3.out];refine (tocaus_any bs n A c false v3 HL.out (by have:=HN.out;omega) (Nat.le_refl _) RA.out (fun h=>by cases h)).mono ?_;rintro e v4 ⟨k,yA,yn,yc,yB,ym,yd,yC,yo,ye,rest,m,Ar,cr,b,rfl,hk1,hk2,hk3,hrl,hrr,hks,hb9⟩;have HKS:=Lib.hid hks;have HRL:=Lib.hid hrl;clear hks hrl;have HKc:=Lib.hid (HKc.out.later hb9);have RA:=Lib.hid (RA.out.later hb9);have RX:=Lib.hid (RX.out.later hb9);clear hb9;have RY:Hid (RdP v4 ⟨k,⟨yA,yn,yc⟩,⟨yB,ym,yd⟩,⟨yC,yo,ye⟩⟩):=⟨RdO.rd _ hk1,hk2,hk3.rd⟩
  clear hk1 hk2 hk3 hrr;clear c0 c1 c2;obtain⟨h,hh⟩:∃ g,g=v4.heap.size:=⟨_,rfl⟩;obtain⟨v5,hv5⟩:∃ W,W=v4.alloc (.cells #[.slice yA yn yc,.slice yB ym yd,.slice yC yo ye] 37):=⟨_,rfl⟩
  have hb9:Below v4.heap.size v4 v5:=by rw[hv5];exact Dt.box_below _ _ _
  have b0:v5.cell? ⟨h,0,none⟩=some (.slice yA yn yc):=by rw[hv5,hh];go_simp
  have b1:v5.cell? ⟨h,1,none⟩=some (.slice yB ym yd):=by rw[hv5,hh];go_simp
  have b2:v5.cell? ⟨h,2,none⟩=some (.slice yC yo ye):=by rw[hv5,hh];go_simp
  have HKc:=Lib.hid (HKc.out.later hb9);have RA:=Lib.hid (RA.out.later hb9);have RX:=Lib.hid (RX.out.later hb9);have RY:=Lib.hid (RY.out.later hb9);clear hb9;have HKc:=Lib.hid (((HKc.out.cons_of b2).cons_of b1).cons_of b0);have Hh:=Lib.hid hh;have Hv5:=Lib.hid hv5;clear hh hv5 b0 b1 b2;obtain⟨j,hj⟩:∃ g,g=v5.heap.size:=⟨_,rfl⟩;obtain⟨v6,hv6⟩:∃ W,W=v5.alloc (.cells #[.slice Ar m cr,.bool b] 51):=⟨_,rfl⟩
  have hb9:Below v5.heap.size v5 v6:=by rw[hv6];exact Dt.box_below _ _ _
  have b0:v6.cell? ⟨j,0,none⟩=some (.slice Ar m cr):=by rw[hv6,hj];go_simp
  have b1:v6.cell? ⟨j,1,none⟩=some (.bool b):=by rw[hv6,hj];go_simp
  have HKc:=Lib.hid (HKc.out.later hb9);have RA:=Lib.hid (RA.out.later hb9);have RX:=Lib.hid (RX.out.later hb9);have RY:=Lib.hid (RY.out.later hb9);clear hb9;have HKc:=Lib.hid ((HKc.out.cons_of b1).cons_of b0);have Hj:=Lib.hid hj;have Hv6:=Lib.hid hv6;clear hj hv6 b0 b1
  have Hjh:Hid (j=h+1):=by unfold Hid;rw[Hj.out,Hv5.out,Hh.out];simp
  obtain⟨z,hz⟩:∃ z,(!b&&((m:Int)==0))=z:=⟨_,rfl⟩;have HZ:=Lib.hid hz
  have HRB:=Lib.hid (reads_both (d:=z) hu4.out HKS.out (by
   rw[← HZ.out,Bool.and_eq_true,Bool.not_eq_true',beq_iff_eq,← HRL.out]
   exact⟨fun h=>⟨h.1,List.eq_nil_of_length_eq_zero (by omega)⟩,fun h=>⟨h.1,by rw[h.2];rfl⟩⟩))
  clear hz;obtain⟨c0,c1,c2,c3,c4,c5,c6,c7,-⟩:=HKc.out.cj;rw[Hv6.out,Hv5.out]at c0 c1 c2 c3 c4 c5 c6 c7;rw[Hjh.out,Hh.out]at c0 c1;rw[Hh.out]at c2 c3 c4;go_wp2_with fail;rw[← Hh.out,← Hv5.out,← Hjh.out,← Hv6.out];refine (rdone_any m Ar cr b v6).mono ?_;rw[HZ.out];rintro e v7 ⟨rfl,hb9⟩;have HKc:=Lib.hid (HKc.out.later hb9);have RA:=Lib.hid (RA.out.later hb9);have RX:=Lib.hid (RX.out.later hb9);have RY:=Lib.hid (RY.out.later hb9);clear hb9;clear c0 c1 c2 c3 c4 c5 c6 c7
  cases z with
  | false=>
   obtain⟨rfl,rfl⟩:=HRB.out.2 rfl;obtain⟨c0,c1,c2,c3,c4,c5,c6,c7,-⟩:=HKc.out.cj;go_wp2_with fail;refine (refsameK_any none_ none_ [] [] xA xB xC none none none xn xm xc xd xo xe 0 0 0 0 0 0 v7 true (by simp) (by simp[none_,nodes_mk]) RX.out.len (by have h:([]:List S3).length=xo:=RX.out.len;rw[← h];simp) RX.out.tree RX.out.ctx rfl (RdT.none _ _ _ _) (Rd.nil _)).mono ?_;rintro e v8 ⟨rfl,hb9⟩;have HKc:=Lib.hid (HKc.out.later hb9);have RA:=Lib.hid (RA.out.later hb9);have RX:=Lib.hid (RX.out.later hb9);have RY:=Lib.hid (RY.out.later hb9);clear hb9;clear c0 c1 c2 c3 c4 c5 c6 c7;go_wp2_with fail;go_ret;exact⟨by first | rfl | simp,HKc.out.below⟩
  | true=>
   obtain⟨rfl,rfl,hbs,hkr⟩:=HRB.out.1 rfl;obtain⟨h1,h2⟩:=known_few hbs (by have:=HN.out;have:=HL.out;omega);obtain⟨t,cs⟩:=u;have N:Hid (nodes t≤1000):=h1;have M:Hid (cs.length≤1000):=h2;have HLX:Hid (cs.length=xo):=RX.out.len;have HLY:Hid (cs.length=yo):=RY.out.len;have HSB:=Lib.hid hbs;have HKR:=Lib.hid hkr;clear hbs hkr h1 h2;obtain⟨c0,c1,c2,c3,c4,c5,c6,c7,-⟩:=HKc.out.cj;go_wp2_with fail;refine (bytes_any t cs xA xB xC xn xm xc xd xo xe v7 true (rightKB_iff.2 HKR.out) (by have:=N.out;omega) HLX.out (by have:=M.out;have:=HLX.out;omega) RX.out.tree RX.out.ctx).mono ?_;unfold BytesP;rw[← HSB.out,HL.out];rintro e v8 ⟨hb9,⟨h,_⟩ | ⟨_,h,_⟩ | ⟨_,_,Ab,cb,rfl,ho9⟩⟩
   ·cases h
   ·exact absurd h (by have:=HN.out;omega)
   have HKc:=Lib.hid (HKc.out.later hb9);have RA:=Lib.hid (RA.out.later hb9);have RX:=Lib.hid (RX.out.later hb9);have RY:=Lib.hid (RY.out.later hb9);clear hb9;have RB:Hid (Rd v8 v8.heap.size 1 Ab n cb (u8s bs)):=ho9.rd;clear ho9;clear c0 c1 c2 c3 c4 c5 c6 c7;obtain⟨c0,c1,c2,c3,c4,c5,c6,c7,-⟩:=HKc.out.cj;go_wp2_with fail;refine (refsameK_any t t cs cs xA xB xC yA yB yC xn xm xc xd xo xe yn ym yc yd yo ye v8 true (by simp) (by have:=N.out;omega) HLX.out (by have:=M.out;have:=HLX.out;omega) RX.out.tree RX.out.ctx HLY.out RY.out.tree RY.out.ctx).mono ?_;rintro e v9 ⟨rfl,hb9⟩;have HKc:=Lib.hid (HKc.out.later hb9);have RA:=Lib.hid (RA.out.later hb9);have RX:=Lib.hid (RX.out.later hb9);have RY:=Lib.hid (RY.out.later hb9);have RB:=Lib.hid (RB.out.later hb9);clear hb9;clear c0 c1 c2 c3 c4 c5 c6 c7;have hs1:=run_str (P:=Tryz.prog) v9 25 9 5 Tryz.underlying25 Tryz.underlying5 Tryz.underlying9 RB.out
   have hs2:=run_str (P:=Tryz.prog) v9 25 9 5 Tryz.underlying25 Tryz.underlying5 Tryz.underlying9 RA.out;go_wp2_with fail;go_ret;exact⟨by first | rfl | simp,HKc.out.below⟩
set_option maxRecDepth 100000 in
theorem lifted (os:Os) (started:os.Started) (H:Type) (enc:TypeId×Value→H) :
  ReturnsInHanded {} Tryz.checked os 7 .any (Rows.packReadsSpec.pre6 enc Tryz.prog Tryz.f7 Rows.packReadsRow.domain false) (Rows.packReadsSpec.post enc Tryz.prog Tryz.f7 false true false false):=by
 refine returnsInHanded_of_change_sized (C:=Tryz.checked) own started (by kernel_rfl) Tryz.func7
  (ChangeSpec.witness6 (enc:=enc) (C:=Tryz.checked) false ⟨#[],#[.slice none 0 0],[]⟩ 8 (by kernel_rfl) (by kernel_rfl) (by kernel_rfl) (by kernel_rfl)) ?_
 intro W base args ds gs before hval0 hW _ hsz0 _;have hval:∀ (j:Nat) t v,Tryz.f7.params[j]?=some t→args[j]?=some v→Value.okWide Tryz.prog W .any base t v:=hval0;have hW':=hW;obtain⟨p,q,hA0,hV,rfl,hfz,hnd⟩:=hW;have hA:DataW.TrodAll enc Tryz.prog W 0 (fun _=>true) true Tryz.f7.params.toList args.toList ds p:=hA0;rw[Tryz.params7]at hA hval;obtain⟨v0,d0,rfl,rfl,h0⟩:=trodAll_one hA;obtain⟨rfl,rfl⟩:=trodVars_none hV;obtain⟨A0,n0,c0,rfl⟩:=okWide_slice Tryz.underlying25 (hval 0 25 v0 rfl rfl);obtain⟨f0,hf0⟩:=h0;obtain⟨bs0,hl0,hr0,_⟩:=bytes_of_trod hf0;refine (walk_any bs0 n0 A0 c0 W hl0 hr0).mono fun e W' ⟨he,hb⟩=>?_;subst he;exact⟨_,rfl,law_post hW' (by kernel_rfl) rfl rfl rfl hb⟩
theorem proved:Rows.PackReadsSaid:=
 OpenClaim.holds_of_wide 7 Tryz.f7 rfl rfl rfl rfl rfl rfl rfl ⟨rfl,rfl,rfl,rfl,rfl⟩ rfl rfl rfl rfl rfl (by kernel_rfl) Tryz.func7 (by kernel_rfl)
  (of_decide_eq_true (by kernel_rfl)) (by unfold Func.isWrapper;first | (rw[if_pos (by decide +kernel)];kernel_rfl) | (rw[if_neg (by decide +kernel)];exact⟨rfl,rfl⟩))
  (fun os started H enc _=>lifted os started H enc)
#print axioms proved
end lawPackReads
end Go.Proofs.YtcbpgemiffmieaaGreat
