/- Layer 15: how views that come in are opened. -/
import Derived.Test.YtgeafpaognhokaaGreatG1110
namespace Go.Proofs.YtgeafpaognhokaaGreat
open Go.ChangeShapes Go.WideShapes Go.ChangeAt Go.RowKit
namespace Cs
open Tr Cx Sp Rw Classical
set_option maxRecDepth 100000
theorem view_of_trod {H:Type} {enc:TypeId×Value→H} {W:World} {fuel:Nat} {cs:List Value} {y:DataW H×List MemPlace} (h:DataW.trod enc Tryz.prog W 0 (fun _=>true) true fuel 51 cs=some y):∃ (A:Option Addr) (n c:Nat) (kd:Int) (on:Bool) (m:Int) (l:List ByteArray),cs=[.int .i64 kd,.bool on,.int .i64 m,.slice A n c]∧Rd W W.heap.size 1 A n c (Tr.strs l):=by
 obtain⟨f0,f1,f2,f3,hT,t0,o0,t1,o1,t2,o2,t3,o3⟩:∃ f0 f1 f2 f3:Field,Tryz.prog.underlying 51=some (.struct #[f0,f1,f2,f3])∧f0.type=3∧f0.offset=0∧f1.type=4∧f1.offset=1∧f2.type=2∧f2.offset=2∧f3.type=25∧f3.offset=3:=⟨_,_,_,_,Tryz.underlying51,rfl,rfl,rfl,rfl,rfl,rfl,rfl,rfl⟩;obtain⟨xs,n,rfl,rfl,hlen,hxl,hfs⟩:=DataW.trod_struct hT h
 have hc4:Tryz.prog.cellsOf 51=4:=by kernel_rfl
 have hcs:Tryz.prog.cellsOf 25=1:=by kernel_rfl
 have hci:Tryz.prog.cellsOf 3=1:=by kernel_rfl
 have hct:Tryz.prog.cellsOf 4=1:=by kernel_rfl
 have hcj:Tryz.prog.cellsOf 2=1:=by kernel_rfl
 rw[hc4]at hlen
 obtain⟨c0,c1,c2,c3,rfl⟩:∃ c0 c1 c2 c3,cs=[c0,c1,c2,c3]:=by
  match cs,hlen with
  | [c0,c1,c2,c3],_=>exact⟨_,_,_,_,rfl⟩
 obtain⟨x0,x1,x2,x3,rfl⟩:∃ x0 x1 x2 x3,xs=[x0,x1,x2,x3]:=by
  match xs,hxl with
  | [x0,x1,x2,x3],_=>exact⟨_,_,_,_,rfl⟩
 have h0:=hfs 0 f0 rfl;have h1:=hfs 1 f1 rfl;have h2:=hfs 2 f2 rfl;have h3:=hfs 3 f3 rfl;rw[t0,o0,hci]at h0;rw[t1,o1,hct]at h1;rw[t2,o2,hcj]at h2;rw[t3,o3,hcs]at h3
 simp at h0 h1 h2 h3
 obtain⟨a,e0,_,_⟩:=DataW.trod_int Tryz.underlying3 h0;obtain⟨b,e1,_⟩:=DataW.trod_bool Tryz.underlying4 h1;obtain⟨v,e2,_,_⟩:=DataW.trod_int Tryz.underlying2 h2;obtain⟨A,n,c,l,rfl,hr⟩:=slice_of_trod h3
 simp at e0 e1 e2
 subst e0;subst e1;subst e2;exact⟨A,n,c,a,b,v,l,rfl,hr⟩
end Cs
end Go.Proofs.YtgeafpaognhokaaGreat
