/- Two joined, and compared. -/
import Derived.Test.YtcbpgemiffmieaaGreatG00
import Derived.Test.YtcbpgemiffmieaaGreatG50
import Derived.Test.YtcbpgemiffmieaaGreatG10
namespace Go.Proofs.YtcbpgemiffmieaaGreat
open Go.ChangeShapes Go.WideShapes Go.ChangeAt Go.RowKit
namespace Cs
open Tr Cx Sp Rw Classical
structure OwC (w':World) (lo:Nat) (k:K) (Ae:Option Addr) (ne ce:Nat) (Ak:Option Addr) (nk ck:Nat) (Ca:Option Addr) (na ca9:Nat):Prop where
 tree:RdO w' (fun b=>lo≤b) k.1 ⟨Ae,ne,ce⟩ ⟨Ak,nk,ck⟩
 len:k.2.length=na
 ctx:RO w' (fun b=>lo≤b) 3 Ca na ca9 (spsC k.2)
theorem OwC.later {w w':World} {lo:Nat} {k:K} {Ae Ak Ca:Option Addr} {ne ce nk ck na ca9:Nat} (h:OwC w lo k Ae ne ce Ak nk ck Ca na ca9) (hb:Below w.heap.size w w'):OwC w' lo k Ae ne ce Ak nk ck Ca na ca9:=⟨RdO.later h.tree hb,h.len,h.ctx.keep hb.size fun b _ hlt=>hb.block b hlt⟩
instance {lo:Nat} {k:K} {Ae Ak Ca:Option Addr} {ne ce nk ck na ca9:Nat} {v v':World} : Las v v' (OwC v lo k Ae ne ce Ak nk ck Ca na ca9) (OwC v' lo k Ae ne ce Ak nk ck Ca na ca9):=⟨fun h hb=>h.later hb⟩
theorem OwC.mono {w:World} {lo lo':Nat} {k:K} {Ae Ak Ca:Option Addr} {ne ce nk ck na ca9:Nat} (h:OwC w lo k Ae ne ce Ak nk ck Ca na ca9) (hl:lo'≤lo):OwC w lo' k Ae ne ce Ak nk ck Ca na ca9:=⟨RdO.mono (fun _ hb _=>Nat.le_trans hl hb) _ h.tree,h.len,h.ctx.mono fun _ hb _=>Nat.le_trans hl hb⟩
theorem OwC.rdT {w:World} {lo:Nat} {k:K} {Ae Ak Ca:Option Addr} {ne ce nk ck na ca9:Nat} (h:OwC w lo k Ae ne ce Ak nk ck Ca na ca9):RdT w w.heap.size k.1 ⟨Ae,ne,ce⟩ ⟨Ak,nk,ck⟩:=RdO.rd _ h.tree
end Cs
end Go.Proofs.YtcbpgemiffmieaaGreat
