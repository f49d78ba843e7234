/- Layer 18: package journal: Open, and what it mends ahead of that. -/
import Derived.Test.YtcffbgehopjgpaaJournal1
import Derived.Test.YtcffbgehopjgpaaJournalList
import Derived.Test.YtcffbgehopjgpaaFrameScan
import Derived.Test.YtcffbgehopjgpaaJournalOpen
import Derived.Deep.DeepCutAuto
import Derived.RegionTactic
namespace Go.Proofs.Ytcffbgehopjgpaa
open Go.ChangeShapes Go.WideShapes Go.ChangeAt Go.RowKit
namespace Jrn
open By Tpe Frm
set_option maxRecDepth 100000
set_option maxHeartbeats 2000000
/-- what mend answers: l, and which error -/
def Mends (lo g : Nat) (ob : Option Nat) (s : S) (code : Int) (l : List Rec) (w : World) (e : Ending) (w' : World) : Prop := ∃ v B, e = .returned (.tuple #[v, .int .i64 code]) ∧ w.heap.size ≤ B ∧ LogL B w' v l ∧ Did w lo g ob s w'
section
variable {w : World} {lo g : Nat} {ob : Option Nat} {s : S} {Af : Option Addr} {nf cf : Nat} {b : Rec}
theorem mend_lost (h : Tp w lo g ob s) (hlo : s.lo = true) (v : Value) :
    Calls Try.prog 43 #[.pointer (some ⟨g, 0, none⟩), v] w fun e w' => e = .returned (.tuple #[.slice none 0 0, .int .i64 9]) ∧ w = w' := by
  obtain ⟨A1, n1, c1, fb1, ah1, hta1, hob1⟩ := h
  have HRD := Lib.hid (read_lost hta1 hlo)
  clear hta1 hob1
  go_enter Try.func43, Try.ntmps43
  go_wp2_with fail
  refine HRD.out.mono ?_
  rintro e v1 ⟨rfl, rfl⟩
  go_wp2_with fail
  go_ret2
  exact ⟨rfl, rfl⟩
theorem mend_kept {l : List Rec} (h : Tp w lo g ob s) (hlo : s.lo = false) (hn : s.bs.length ≤ 70000) (hsc : Scans s.bs l s.bs.length) (hl0 : l ≠ []) (v : Value) :
    Calls Try.prog 43 #[.pointer (some ⟨g, 0, none⟩), v] w (Mends lo g ob s 0 l w) := by
  have HT0 := Lib.hid h
  obtain ⟨A1, n1, c1, fb1, ah1, hta1, hob1⟩ := h
  obtain rfl : s.bs.length = n1 := hta1.len
  have HRD := Lib.hid (read_ok hta1 hlo hn)
  obtain ⟨n1, hn1⟩ : ∃ y, y = s.bs.length := ⟨_, rfl⟩
  rw [← hn1] at HRD hsc hn
  have hcnt := hsc.count
  have hpos : 0 < l.length := List.length_pos_iff.2 hl0
  have HSC := Lib.hid hsc
  have HN1 := Lib.hid hn1
  clear hta1 hob1 hsc hn1
  go_enter Try.func43, Try.ntmps43
  go_wp2_with fail
  refine HRD.out.mono ?_
  rintro e v1 ⟨A5, c5, rfl, ho5, hb5⟩
  have HB1 := Lib.hid hb5
  have HF := Lib.hid (scan_any s.bs n1 A5 c5 v1 HN1.out.symm (by omega) ho5.rd)
  clear ho5 hb5 HRD
  go_wp2_with fail
  refine HF.out.mono ?_
  rintro e v2 ⟨l9, k8, v, hs9, rfl, hlog, hb2⟩
  obtain ⟨rfl, rfl⟩ := HSC.out.uniq hs9
  obtain ⟨A8, c8, rfl, _⟩ := hlog.rdL
  have HLG := Lib.hid hlog
  have HB2 : Hid (Below w.heap.size w v2) := HB1.out.trans (hb2.mono HB1.out.size)
  obtain ⟨m, hm⟩ : ∃ m, l.length = m := ⟨_, rfl⟩
  rw [hm] at hpos HLG ⊢
  have hz : ((m : Int) == 0) = false := by simp; omega
  have hz2 : (m == 0) = false := by simp; omega
  clear hlog hb2 hs9 HF
  go_wp2_with fail
  go_ret2
  exact ⟨_, v1.heap.size, rfl, HB1.out.size, HLG.out, ob, HT0.out.later HB2.out, Two.of_below HB2.out, Fresh.refl _ _⟩
theorem mend_cut {l : List Rec} {k9 : Nat} (h : Tp w lo g ob s) (hw : lo ≤ w.heap.size) (hcap : 0 ≤ s.cap ∧ s.cap ≤ 1048576) (hr : s.fu ≤ 9223372036854775807) (hlo : s.lo = false) (hn : s.bs.length ≤ 70000) (hsc : Scans s.bs l k9) (hkn : k9 < s.bs.length) (hl0 : l ≠ []) (s1 : S) (e1 : Int) (hs1 : rep s (frms l) = (s1, e1)) (v : Value) :
    Calls Try.prog 43 #[.pointer (some ⟨g, 0, none⟩), v] w (Mends lo g ob s1 e1 l w) := by
  have HT0 := Lib.hid h
  have hlg := h.lo_
  have hobl := h.obl
  obtain ⟨A1, n1, c1, fb1, ah1, hta1, hob1⟩ := h
  obtain rfl : s.bs.length = n1 := hta1.len
  have HRD := Lib.hid (read_ok hta1 hlo hn)
  have hcnt := hsc.count
  have hpos : 0 < l.length := List.length_pos_iff.2 hl0
  have hfl : s.bs.take k9 = frms l := hsc.eq.symm
  obtain ⟨n1, hn1⟩ : ∃ y, y = s.bs.length := ⟨_, rfl⟩
  rw [← hn1] at HRD hn hkn
  have HSC := Lib.hid hsc
  have HN1 := Lib.hid hn1
  have HFL := Lib.hid hfl
  have HS1 := Lib.hid hs1
  clear hta1 hob1 hsc hn1 hfl hs1
  go_enter Try.func43, Try.ntmps43
  go_wp2_with fail
  refine HRD.out.mono ?_
  rintro e v1 ⟨A5, c5, rfl, ho5, hb5⟩
  have HB1 := Lib.hid hb5
  have HO1 := Lib.hid ho5
  have HF := Lib.hid (scan_any s.bs n1 A5 c5 v1 HN1.out.symm (by omega) ho5.rd)
  clear ho5 hb5 HRD
  go_wp2_with fail
  refine HF.out.mono ?_
  rintro e v2 ⟨l9, k8, v, hs9, rfl, hlog, hb2⟩
  obtain ⟨rfl, rfl⟩ := HSC.out.uniq hs9
  obtain ⟨A8, c8, rfl, _⟩ := hlog.rdL
  have HLG := Lib.hid hlog
  have HB2 : Hid (Below w.heap.size w v2) := HB1.out.trans (hb2.mono HB1.out.size)
  have HT2 := Lib.hid (HT0.out.later HB2.out)
  obtain ⟨m, hm⟩ : ∃ m, l.length = m := ⟨_, rfl⟩
  rw [hm] at hpos HLG ⊢
  have hz : ((m : Int) == 0) = false := by simp; omega
  have hz2 : (m == 0) = false := by simp; omega
  have d2 : decide ((k9 : Int) < (n1 : Int)) = true := decide_eq_true (by omega)
  have d3 : decide (k9 < n1) = true := decide_eq_true hkn
  have hcut := fun W => cut_to A5 n1 c5 k9 (by have := HO1.out.rd.cap; omega) W
  obtain ⟨A2, n2, c2, fb2, ah2, hta2, hob2⟩ := HT2.out
  have HRP := Lib.hid (replace_any (b := frms l) hta2 (Nat.le_trans hw HB2.out.size) hcap hr (by
    have h := ((Rk.of_own HO1.out fun x hx => show x ≠ g by omega).later hb2).take (k := k9) (by omega)
    rw [HFL.out] at h
    exact h) (show k9 ≤ 70000 by omega))
  rw [hob2, HS1.out] at HRP
  clear hlog hb2 hs9 HF hta2 hob2
  go_wp2_with fail
  refine HRP.out.mono ?_
  rintro e v3 ⟨rfl, hd3⟩
  have HD3 := Lib.hid (Did.later HB2.out hd3)
  have HLG3 : Hid (LogL v1.heap.size v3 (.slice A8 m c8) l) := by
    obtain ⟨_, _, ht, _⟩ := hd3
    exact LogL_any HLG.out ht (by have := HB1.out.size; omega) fun b hb => by have h1 := (hobl b hb).2.1; have := HB1.out.size; omega
  clear hd3 HRP
  go_wp2_with fail
  go_ret2
  exact ⟨_, v1.heap.size, rfl, HB1.out.size, HLG3.out, HD3.out⟩
theorem mend_new {k9 : Nat} (h : Tp w lo g ob s) (hw : lo ≤ w.heap.size) (hcap : 0 ≤ s.cap ∧ s.cap ≤ 1048576) (hr : s.fu ≤ 9223372036854775807) (hlo : s.lo = false) (hn : s.bs.length ≤ 70000) (hsc : Scans s.bs [] k9) (hf : Rk w (fun x => x ≠ g) Af nf cf (frm b)) (hb : b.length ≤ 60000) (s1 : S) (e1 : Int) (hs1 : rep s (frms [b]) = (s1, e1)) :
    Calls Try.prog 43 #[.pointer (some ⟨g, 0, none⟩), .slice Af nf cf] w (Mends lo g ob s1 e1 [b] w) := by
  have HT0 := Lib.hid h
  have hlg := h.lo_
  have hobl := h.obl
  have hfrm : frms [b] = frm b := by rw [frms_cons, frms_nil, List.append_nil]
  rw [hfrm] at hs1
  have hfl := hf.len
  have hnf : nf ≤ 60008 := by rw [frm_len] at hfl; omega
  have HSB : Hid (Scans (frm b) [b] nf) := by
    have h := scans_frms (l := [b]) (by simp; exact hb)
    rw [hfrm, hfl] at h
    exact h
  obtain ⟨A1, n1, c1, fb1, ah1, hta1, hob1⟩ := h
  obtain rfl : s.bs.length = n1 := hta1.len
  have HRD := Lib.hid (read_ok hta1 hlo hn)
  obtain ⟨n1, hn1⟩ : ∃ y, y = s.bs.length := ⟨_, rfl⟩
  rw [← hn1] at HRD hn
  obtain ⟨x, hx⟩ : ∃ x, x = frm b := ⟨_, rfl⟩
  rw [← hx] at hfl hf HSB hs1
  have HK0 := Lib.hid hf
  have HSC := Lib.hid hsc
  have HN1 := Lib.hid hn1
  have HS1 := Lib.hid hs1
  have HFL := Lib.hid hfl
  clear hta1 hob1 hsc hn1 hs1 hf hfrm hfl hx
  go_enter Try.func43, Try.ntmps43
  go_wp2_with fail
  refine HRD.out.mono ?_
  rintro e v1 ⟨A5, c5, rfl, ho5, hb5⟩
  have HB1 := Lib.hid hb5
  have HF := Lib.hid (scan_any s.bs n1 A5 c5 v1 HN1.out.symm (by omega) ho5.rd)
  clear ho5 hb5 HRD
  go_wp2_with fail
  refine HF.out.mono ?_
  rintro e v2 ⟨l9, k8, v, hs9, rfl, hlog, hb2⟩
  obtain ⟨rfl, rfl⟩ := HSC.out.uniq hs9
  obtain ⟨A8, c8, rfl, _⟩ := hlog.rdL
  have HB2 : Hid (Below w.heap.size w v2) := HB1.out.trans (hb2.mono HB1.out.size)
  have HF2 := Lib.hid (scan_any x nf Af cf v2 HFL.out (by omega) (HK0.out.later HB2.out).rd)
  clear hlog hb2 hs9 HF
  go_wp2_with fail
  refine HF2.out.mono ?_
  rintro e v3 ⟨l9, k8, v, hs9, rfl, hlog, hb3⟩
  obtain ⟨rfl, rfl⟩ := HSB.out.uniq hs9
  obtain ⟨A9, c9, rfl, _⟩ := hlog.rdL
  have HLG := Lib.hid hlog
  have HB3 : Hid (Below w.heap.size w v3) := HB2.out.trans (hb3.mono HB2.out.size)
  have HT3 := Lib.hid (HT0.out.later HB3.out)
  obtain ⟨A2, n2, c2, fb2, ah2, hta2, hob2⟩ := HT3.out
  have HRP := Lib.hid (replace_any (b := x) hta2 (Nat.le_trans hw HB3.out.size) hcap hr (HK0.out.later HB3.out) (show nf ≤ 70000 by omega))
  rw [hob2, HS1.out] at HRP
  clear hlog hb3 hs9 HF2 hta2 hob2
  go_wp2_with fail
  refine HRP.out.mono ?_
  rintro e v4 ⟨rfl, hd3⟩
  have HD3 := Lib.hid (Did.later HB3.out hd3)
  have HLG3 : Hid (LogL v2.heap.size v4 (.slice A9 [b].length c9) [b]) := by
    obtain ⟨_, _, ht, _⟩ := hd3
    exact LogL_any HLG.out ht (by have := HB2.out.size; omega) fun b hb => by have h1 := (hobl b hb).2.1; have := HB2.out.size; omega
  clear hd3 HRP
  go_wp2_with fail
  go_ret2
  exact ⟨_, v2.heap.size, rfl, HB2.out.size, HLG3.out, HD3.out⟩
end
end Jrn
end Go.Proofs.Ytcffbgehopjgpaa
