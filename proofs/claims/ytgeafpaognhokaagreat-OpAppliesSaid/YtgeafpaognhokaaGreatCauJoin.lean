/- Two joined, and compared. -/
import Derived.Test.YtgeafpaognhokaaGreatG00
import Derived.Test.YtgeafpaognhokaaGreatG50
import Derived.Test.YtgeafpaognhokaaGreatG10
namespace Go.Proofs.YtgeafpaognhokaaGreat
open Go.ChangeShapes Go.WideShapes Go.ChangeAt Go.RowKit
namespace Cs
open Tr Cx Sp Rw Classical
structure OwC (w':World) (lo:Nat) (k:K) (Ae:Option Addr) (ne ce:Nat) (Ak:Option Addr) (nk ck:Nat) (Ca:Option Addr) (na ca9:Nat):Prop where
 tree:RdO w' (fun b=>lo≤b) k.1 ⟨Ae,ne,ce⟩ ⟨Ak,nk,ck⟩
 len:k.2.length=na
 ctx:RO w' (fun b=>lo≤b) 3 Ca na ca9 (spsC k.2)
theorem OwC.later {w w':World} {lo:Nat} {k:K} {Ae Ak Ca:Option Addr} {ne ce nk ck na ca9:Nat} (h:OwC w lo k Ae ne ce Ak nk ck Ca na ca9) (hb:Below w.heap.size w w'):OwC w' lo k Ae ne ce Ak nk ck Ca na ca9:=⟨RdO.later h.tree hb,h.len,h.ctx.keep hb.size fun b _ hlt=>hb.block b hlt⟩
theorem OwC.mono {w:World} {lo lo':Nat} {k:K} {Ae Ak Ca:Option Addr} {ne ce nk ck na ca9:Nat} (h:OwC w lo k Ae ne ce Ak nk ck Ca na ca9) (hl:lo'≤lo):OwC w lo' k Ae ne ce Ak nk ck Ca na ca9:=⟨RdO.mono (fun _ hb _=>Nat.le_trans hl hb) _ h.tree,h.len,h.ctx.mono fun _ hb _=>Nat.le_trans hl hb⟩
theorem OwC.rdT {w:World} {lo:Nat} {k:K} {Ae Ak Ca:Option Addr} {ne ce nk ck na ca9:Nat} (h:OwC w lo k Ae ne ce Ak nk ck Ca na ca9):RdT w w.heap.size k.1 ⟨Ae,ne,ce⟩ ⟨Ak,nk,ck⟩:=RdO.rd _ h.tree
theorem OwC.no (w:World) (lo:Nat):OwC w lo noneK none 0 0 none 0 0 none 0 0:=⟨RdO.none _ _ _ _ _ _,rfl,RO.nil _ _ _ _ _⟩
theorem OwC.set3 {w:World} {lo r:Nat} {k:K} {Ae Ak Ca:Option Addr} {ne ce nk ck na ca9:Nat} (h:OwC w lo k Ae ne ce Ak nk ck Ca na ca9) (hr:r<lo) (v0 v1 v2:Value):OwC (((w.setCell ⟨r,0,none⟩ v0).setCell ⟨r,1,none⟩ v1).setCell ⟨r,2,none⟩ v2) lo k Ae ne ce Ak nk ck Ca na ca9:=by
 have hk:∀ b,lo≤b→(((w.setCell ⟨r,0,none⟩ v0).setCell ⟨r,1,none⟩ v1).setCell ⟨r,2,none⟩ v2).heap[b]?=w.heap[b]?:=fun b hb=>
  ((Below.heap_setCell _ ⟨r,2,none⟩ _ b (fun e=>by have h:b=r:=e;omega)).trans (Below.heap_setCell _ ⟨r,1,none⟩ _ b (fun e=>by have h:b=r:=e;omega))).trans (Below.heap_setCell _ ⟨r,0,none⟩ _ b (fun e=>by have h:b=r:=e;omega))
 exact⟨RdO.keep (by simp[World.setCell]) (fun b hb _=>hk b hb) _ h.tree,h.len,h.ctx.keep (by simp[World.setCell]) fun b hb _=>hk b hb⟩
def CausIs (k:K) (w:World) (e:Ending) (w':World):Prop:=∃ Ae ne ce Ak nk ck Ca na ca9,e = .returned (.agg #[.slice Ae ne ce,.slice Ak nk ck,.slice Ca na ca9])∧OwC w' w.heap.size k Ae ne ce Ak nk ck Ca na ca9∧Below w.heap.size w w'
def CausErr (k:K) (x:Int) (w:World) (e:Ending) (w':World):Prop:=∃ Ae ne ce Ak nk ck Ca na ca9,e = .returned (.tuple #[.agg #[.slice Ae ne ce,.slice Ak nk ck,.slice Ca na ca9],.int .i64 x])∧OwC w' w.heap.size k Ae ne ce Ak nk ck Ca na ca9∧Below w.heap.size w w'
set_option maxRecDepth 100000 in
set_option maxHeartbeats 4000000 in
theorem copiedC_any (cs:List S3) (Ca:Option Addr) (na ca9:Nat) (w:World) (hl:cs.length=na) (hna:na≤1000) (hc:Rd w w.heap.size 3 Ca na ca9 (spsC cs)) :
  Calls Tryz.prog 147 #[.slice Ca na ca9] w fun e w'=>∃ A c,e = .returned (.slice A na c)∧RO w' (fun b=>w.heap.size≤b) 3 A na c (spsC cs)∧Below w.heap.size w w':=by
 obtain⟨A2,c2,w2,h1,h2,h3⟩:=appsC (w:=w) (base:=w.heap.size) (n:=0) (m:=na) (c:=0) (c':=ca9) (A:=none) (A':=Ca) (xs:=[]) (ys:=cs) ⟨World.ownsRow_nil _ _ _ _,by simp[spsC]⟩ hc (by omega) (Nat.le_refl _);rw[Nat.zero_add]at h1 h2;rw[List.nil_append]at h2;have Hrun:=Lib.hid h1;have HR:Hid (RO w2 (fun b=>w.heap.size≤b) 3 A2 na c2 (spsC cs)∧Below w.heap.size w w2):=⟨(RO.of_own h2).mono fun _ hb _=>hb.1,h3⟩;clear h1 h2 h3 hc hl;go_enter Tryz.func147,Tryz.ntmps147;go_wp2_with (at_builtin;refine Lib.wpList_append_run _ rfl _ _ _ _ rfl _ _ rfl rfl _ _ Hrun.out ?_);go_ret;exact⟨A2,c2,rfl,HR.out⟩
end Cs
end Go.Proofs.YtgeafpaognhokaaGreat
