/- Changes: is there room: the document's. -/
import Derived.Test.YtgeafpaognhokaaGreatG00
import Derived.Test.YtgeafpaognhokaaGreatG60
namespace Go.Proofs.YtgeafpaognhokaaGreat
open Go.ChangeShapes Go.WideShapes Go.ChangeAt Go.RowKit
namespace Cs
open Tr Cx Sp Rw Classical
noncomputable def fullB (t:T) (o:OpM):Bool:=decide (brings o.act∧((∃ (k:Nat) (h:k<(endP o).length),24≤(getT t ((endP o).take k)).ks.length∧(endP o)[k]∉keysOf (getT t ((endP o).take k)).ks)∨(o.act=5∧24≤(getT t (endP o)).es.length)))
theorem infoT:(Tryz.prog.info? 9).map (fun i=>(i.zero,i.size,i.bytes))=some (some (.string ⟨#[]⟩),1,16):=by kernel_rfl
theorem cut_strs (A:Option Addr) (n c k:Nat) (hk:k≤c) (W:World):(Instr.slice 25 (.slice A n c) none (some (.int .i64 (k:Nat))) none).run Tryz.prog W = .ok (.slice A k c) W:=by
 obtain⟨i0,hi0,hz0,hz1,hz2⟩:=info_of infoT;exact run_cut_to (P:=Tryz.prog) 25 9 1 Tryz.underlying25 hi0 hz1 A n c k hk W
theorem rd_cut {w:World} {B n c k:Nat} {A:Option Addr} {l:List ByteArray} (h:Rd w B 1 A n c (strs l)) (hk:k≤n):Rd w B 1 A k c (strs (l.take k)):=by
 have hl:=rd_len1 h;refine⟨?_,Nat.le_trans hk h.cap,fun u hu=>h.one u ?_,fun h0=>?_⟩
 ·rw[strs_len,List.length_take];omega
 ·unfold Tr.strs at hu ⊢
  rw[List.map_take]at hu;exact List.mem_of_mem_take hu
 ·obtain⟨b,o,e,hb,hc⟩:=h.at_ (by omega)
  refine⟨b,o,e,hb,fun j u hu=>hc j u ?_⟩;unfold Tr.strs at hu ⊢;rw[List.map_take,List.getElem?_take]at hu
  split at hu
  ·exact hu
  ·cases hu
end Cs
end Go.Proofs.YtgeafpaognhokaaGreat
