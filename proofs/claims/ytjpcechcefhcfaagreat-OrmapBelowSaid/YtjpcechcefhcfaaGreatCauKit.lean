/- What the laws on what is known have in common. -/
import Derived.Test.YtjpcechcefhcfaaGreatCauMore
import Derived.Test.YtjpcechcefhcfaaGreatTreeRefSame
import Derived.Test.YtjpcechcefhcfaaGreatG20
set_option maxRecDepth 100000
set_option maxHeartbeats 4000000
namespace Go.Proofs.YtjpcechcefhcfaaGreat
open Go.ChangeShapes Go.WideShapes Go.ChangeAt Go.RowKit
namespace Cs
open Tr Cx Sp Rw Classical
theorem smallK_any (t:T) (Ae Ak Ca:Option Addr) (ne nk ce ck na ca9:Nat) (w:World) (hl:LenT reachBytes t) (hr:RdT w w.heap.size t ⟨Ae,ne,ce⟩ ⟨Ak,nk,ck⟩) :
  Calls Tryz.prog 10 #[.agg #[.slice Ae ne ce,.slice Ak nk ck,.slice Ca na ca9],.int .i64 40] w fun e w'=>∃ b:Bool,e = .returned (.bool b)∧(b=true→nodes t≤40∧na≤40)∧Below w.heap.size w w':=by
 obtain⟨W,p,HW,HP,HKc⟩:=boxC1 w Ae Ak Ca ne nk ce ck na ca9;have HSM:=Lib.hid (small_to t Ae Ak ne nk ce ck 40 40 rfl W (by omega) hl (RdT.more HKc.out.below.size _ (RdT.below hr HKc.out.below)));obtain⟨c0,c1,c2,-⟩:=HKc.out.cj;clear hl hr;go_enter Tryz.func10,Tryz.ntmps10;go_wp2_with fail;rw[← HP.out,← HW.out];refine HSM.out.mono ?_;rintro e v1 ⟨b,rfl,hb,hb9⟩;have HKc:=Lib.hid (HKc.out.later hb9);have HB:=Lib.hid hb;clear hb hb9 c0 c1 c2;obtain⟨c0,c1,c2,-⟩:=HKc.out.cj
 cases b with
 | false=>
  go_wp2_with fail;go_ret;exact⟨false,rfl,fun h=>absurd h (by simp),HKc.out.below⟩
 | true=>
  have HB2:=Lib.hid (HB.out rfl);clear HB
  by_cases hm:na≤40
  ·have f1:decide ((na:Int)≤40)=true:=decide_eq_true (by omega)
   go_wp2_with fail;go_ret;exact⟨true,rfl,fun _=>⟨HB2.out,hm⟩,HKc.out.below⟩
  ·have f1:decide ((na:Int)≤40)=false:=decide_eq_false (by omega)
   go_wp2_with fail;go_ret;exact⟨false,rfl,fun h=>absurd h (by simp),HKc.out.below⟩
theorem refsameK_any (t u:T) (cs ds:List S3) (Ae Ak Ca Be Bk Cb:Option Addr) (ne nk ce ck na ca9 me mk de dk nb cb9:Nat) (w:World) (z:Bool) (hz:decide ((t,cs)=(u,ds))=z) (hn:nodes t≤1000000) (hl:cs.length=na) (hna:na≤1000000) (hr:RdT w w.heap.size t ⟨Ae,ne,ce⟩ ⟨Ak,nk,ck⟩) (hc:Rd w w.heap.size 3 Ca na ca9 (spsC cs)) (hl2:ds.length=nb) (hr2:RdT w w.heap.size u ⟨Be,me,de⟩ ⟨Bk,mk,dk⟩) (hc2:Rd w w.heap.size 3 Cb nb cb9 (spsC ds)) :
  Calls Tryz.prog 15 #[.agg #[.slice Ae ne ce,.slice Ak nk ck,.slice Ca na ca9],.agg #[.slice Be me de,.slice Bk mk dk,.slice Cb nb cb9]] w fun e w'=>e = .returned (.bool z)∧Below w.heap.size w w':=by
 have HZ:=Lib.hid hz;have HA:=Lib.hid (And.intro hl (And.intro hc (And.intro hl2 hc2)));clear hz hl hc hl2 hc2;obtain⟨W,p,q,HW,HP,HQ,HKc⟩:=boxC2 w Ae Ak Be Bk Ca Cb ne nk ce ck me mk de dk na ca9 nb cb9;obtain⟨c0,c1,c2,c3,c4,c5,-⟩:=HKc.out.cj;obtain⟨x,hx⟩:∃ x,eqB t u=x:=⟨_,rfl⟩;have HX:=Lib.hid hx;have HST:=Lib.hid (refsameT_any t u Ae Ak ne nk ce ck Be Bk me mk de dk W hn (RdT.more HKc.out.below.size _ (RdT.below hr HKc.out.below)) (RdT.more HKc.out.below.size _ (RdT.below hr2 HKc.out.below)));rw[hx]at HST;clear hr hr2 hx;go_enter Tryz.func15,Tryz.ntmps15;go_wp2_with fail;rw[← HW.out,← HP.out]
 try rw[← HQ.out]
 refine HST.out.mono ?_;rintro e v2 ⟨rfl,hb9⟩;have HKc:=Lib.hid (HKc.out.later hb9);clear hb9 c0 c1 c2 c3 c4 c5
 cases x with
 | false=>
  obtain rfl:z=false:=by
   rw[← HZ.out]
   exact decide_eq_false fun h=>by rw[eqB_yes (congrArg Prod.fst h)]at HX;cases HX.out
  go_wp2_with fail;go_ret;exact⟨by first | rfl | (rw[HZ.out];rfl) | rw[HZ.out],HKc.out.below⟩
 | true=>
  have htu:t=u:=eqB_iff.1 HX.out;obtain⟨c0,c1,c2,c3,c4,c5,-⟩:=HKc.out.cj
  have HSC:=Lib.hid (refsameC_any cs ds na nb Ca Cb ca9 cb9 v2 HA.out.1 HA.out.2.2.1 hna ((HA.out.2.1.below HKc.out.below).more HKc.out.below.size) ((HA.out.2.2.2.below HKc.out.below).more HKc.out.below.size) z (by
   rw[← HZ.out]
   by_cases h:cs=ds
   ·rw[decide_eq_true h,decide_eq_true (by rw[htu,h])]
   ·rw[decide_eq_false h,decide_eq_false fun h2=>h (congrArg Prod.snd h2)]))
  clear htu;go_wp2_with fail;refine HSC.out.mono ?_;rintro e v3 ⟨rfl,hb9⟩;have HKc:=Lib.hid (HKc.out.later hb9);clear hb9 c0 c1 c2 c3 c4 c5;go_wp2_with fail;go_ret;exact⟨by first | rfl | (rw[HZ.out];rfl) | rw[HZ.out],HKc.out.below⟩
structure CP where
 k:K
 e:SV
 d:SV
 c:SV
structure RdP (w:World) (p:CP):Prop where
 tree:RdT w w.heap.size p.k.1 p.e p.d
 len:p.k.2.length=p.c.n
 ctx:Rd w w.heap.size 3 p.c.A p.c.n p.c.c (spsC p.k.2)
theorem RdP.later {w w':World} {p:CP} (h:RdP w p) (hb:Below w.heap.size w w'):RdP w' p:=⟨RdT.later h.tree hb,h.len,h.ctx.later hb⟩
def cpV (p:CP):List Value:=[.slice p.e.A p.e.n p.e.c,.slice p.d.A p.d.n p.d.c,.slice p.c.A p.c.n p.c.c]
def CellsP (w:World) (g:Nat) (ps:List CP):Prop:=∀ (k:Nat) (h:k<ps.length),w.cell? ⟨g,k*3,none⟩=some (.slice ps[k].e.A ps[k].e.n ps[k].e.c)∧w.cell? ⟨g,k*3+1,none⟩=some (.slice ps[k].d.A ps[k].d.n ps[k].d.c)∧w.cell? ⟨g,k*3+2,none⟩=some (.slice ps[k].c.A ps[k].c.n ps[k].c.c)
theorem CellsP.later {w w':World} {g:Nat} {ps:List CP} (h:CellsP w g ps) (hb:Below w.heap.size w w'):CellsP w' g ps:=fun k hk=>by
 obtain⟨h1,h2,h3⟩:=h k hk;have hg:=World.block_lt_of_cell? w _ h1;exact⟨(hb.cell (p:=⟨g,k*3,none⟩) hg).trans h1,(hb.cell (p:=⟨g,k*3+1,none⟩) hg).trans h2,(hb.cell (p:=⟨g,k*3+2,none⟩) hg).trans h3⟩
end Cs
end Go.Proofs.YtjpcechcefhcfaaGreat
