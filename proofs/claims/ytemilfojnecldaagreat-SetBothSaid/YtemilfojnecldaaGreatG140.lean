/- Flags: awake; small. -/
import Derived.Test.YtemilfojnecldaaGreatG00
import Derived.Test.YtemilfojnecldaaGreatDltRef
import Derived.Test.YtemilfojnecldaaGreatG20
import Derived.Test.YtemilfojnecldaaGreatG120
import Derived.Test.YtemilfojnecldaaGreatCauKit
namespace Go.Proofs.YtemilfojnecldaaGreat
open Go.ChangeShapes Go.WideShapes Go.ChangeAt Go.RowKit
namespace Cs
open Tr Cx Sp Rw Classical
theorem RdP.one_len {w : World} {p : CP} {e : E} (h : RdP w p) (hk : p.k.1 = oneT e) : p.e.n = 1 := by
 have h1 := h.tree; rw [hk] at h1; exact (rd_lens (Ae := p.e.A) (ne := p.e.n) (ce := p.e.c) (Ak := p.d.A) (nk := p.d.n) (ck := p.d.c) h1).1.symm
theorem flag_e {a n : Int} (h : Dt.rightB a n = true) : RightE ⟨a, n, ⟨#[]⟩, 0⟩ := ⟨h, by show ByteArray.size ⟨#[]⟩ ≤ 30; decide, by show (-1099511627776 : Int) ≤ 0; decide, by show (0 : Int) ≤ 1099511627776; decide⟩
theorem of_nil : OfC [] [] := ⟨right_noneC, fun d n _ => by
 constructor
 ·intro h; cases h
 ·intro h; cases h⟩
theorem check_none : checkB none_ 1 1 = true := check_iff.2 ⟨RightT.none (d := 4), by decide, by unfold dl; rw [leaves_none]; simp⟩
end Cs
end Go.Proofs.YtemilfojnecldaaGreat
