/- slices' symmetric merge at sorted's pairs: what follows the search, cut into theorems. -/
import Derived.Test.YtolfockpiioncaaSym1
import Derived.Test.YtolfockpiioncaaBlocks
import Derived.Deep.DeepCutAuto
namespace Go.Proofs.Ytolfockpiioncaa
open Go.RowKit
/-- the code from a region on -/
def headIs (k : Nat) : Code → Bool
  | .region j _ _ => j == k
  | .seq a _ => headIs k a
  | _ => false
def fromR (k : Nat) : Code → Option Code
  | .seq a b => if headIs k a then some (.seq a b) else
    match fromR k a with
    | some c => some c
    | none => fromR k b
  | .region j o d => if j == k then some (.region j o d) else none
  | .block _ c => fromR k c
  | .scope c => fromR k c
  | .loop c => fromR k c
  | .cond _ a b =>
    match fromR k a with
    | some c => some c
    | none => fromR k b
  | _ => none
namespace SortS
noncomputable def symFrom (k : Nat) : Code := (Try.f53.body.bind (fromR k)).getD .skip
/-- the search for where both runs are cut: s up, r down -/
def MidAt (xs : Ps) (p s0 r0 s r : Nat) : Prop :=
  (s = s0 ∨ ∃ x y, xs[s - 1]? = some x ∧ xs[p - (s - 1)]? = some y ∧ Le ltS x y) ∧ (r = r0 ∨ ∃ x y, xs[p - r]? = some x ∧ xs[r]? = some y ∧ ltS x.1 y.1)
/-- the merge's contract -/
def SymOk (base g n c : Nat) (a m b : Nat) : Prop :=
  ∀ (xs : Ps) (w : World), Row base g n c w xs → Runs ltS xs a m b → Calls Try.prog 53 #[.slice (some ⟨g, 0, none⟩) n c, .int .i64 a, .int .i64 m, .int .i64 b, .func (.func 36) #[] #[]] w
    (Turned base g n c (fun ys => Merged ltS xs ys a m b) w)
set_option maxRecDepth 100000 in
set_option maxHeartbeats 4000000 in
theorem tail43 (base g n c a m b mid e : Nat) (xs zs : Ps) (w wc : World) (hbn : b ≤ n) (hn : n ≤ 1000) (q1 : mid < b) (q2 : a < mid) (q4 : e ≤ b) (q5 : mid ≤ e)
    (hdone : Hid (∀ us, Merged ltS zs us mid e b → Merged ltS xs us a m b)) (HRZ : Hid (Runs ltS zs mid e b)) (HRW : Hid (Row base g n c wc zs)) (hg4 : Hid (w.grownBy wc (some g)))
    (ih : Hid (∀ a' m' b', a ≤ a' → b' ≤ b → b' - a' < b - a → a' < m' → m' < b' → SymOk base g n c a' m' b')) (u5 u6 u7 u8 u9 u10 u11 u12 u13 u14 u15 u16 u17 u19 u20 u21 u22 u23 u25 u26 u27 u28 u29 u30 u31 u32 u33 u34 u35 u36 u37 u38 u39 u40 u41 u42 u43 u44 u45 u46 u47 u48 u49 u50 u51 u52 u53 u54 u55 u56 u57 u58 u59 u60 u61 u62 u63 u64 u65 u66 u67 u68 u69 u70 u71 u72 u73 u74 u75 u76 u77 u78 u79 u80 u81 u82 u83 u84 u85 u86 u87 u88 u89 u90 u91 u92 u93 u94 u95 u96 u97 u98 u99 u100 u101 u102 u103 u104 u105 u106 u107 u108 u109 u110 u111 u112 u113 u114 u115 u116 u117 u118 u119 u120 u121 u122 u123 u124 u125 u126 u127 u128 u129 u130 u131 u132 u133 u134 u135 u136 u137 u138 u139 u140 u141 u142 u143 u144 u145 u146 u147 u148 u149 u150 u151 u152 u153 u154 u155 u156 u157 u158 u159 u160 u161 u162 u163 u164 u165 u166 u167 u168 u169 u170 u171 u172 u173 u174 u175 u176 u177 u178 u179 u180 u181 u182 u183 u184 u185 u186 u187 u188 u189 u190 u191 u192 u193 u194 u195 u196 u197 u198 u199 u200 u201 u202 u203 u204 u205 u206 u207 u208 u209 u210 u211 u212 u213 u214 u215 u216 u217 u218 u219 : Value) :
    Code.wp Try.prog (symFrom 43) (bodyPost Try.prog Try.f53 (Turned base g n c (fun ys => Merged ltS xs ys a m b) w)) ⟨#[.slice (some ⟨g, 0, none⟩) n c, .int .i64 a, .int .i64 m, .int .i64 b, .func (.func 36) #[] #[], u5, u6, u7, u8, u9, u10, u11, u12, u13, u14, u15, u16, u17, .int .i64 mid, u19, u20, u21, u22, u23, .int .i64 e, u25, u26, u27, u28, u29, u30, u31, u32, u33, u34, u35, u36, u37, u38, u39, u40, u41, u42, u43, u44, u45, u46, u47, u48, u49, u50, u51, u52, u53, u54, u55, u56, u57, u58, u59, u60, u61, u62, u63, u64, u65, u66, u67, u68, u69, u70, u71, u72, u73, u74, u75, u76, u77, u78, u79, u80, u81, u82, u83, u84, u85, u86, u87, u88, u89, u90, u91, u92, u93, u94, u95, u96, u97, u98, u99, u100, u101, u102, u103, u104, u105, u106, u107, u108, u109, u110, u111, u112, u113, u114, u115, u116, u117, u118, u119, u120, u121, u122, u123, u124, u125, u126, u127, u128, u129, u130, u131, u132, u133, u134, u135, u136, u137, u138, u139, u140, u141, u142, u143, u144, u145, u146, u147, u148, u149, u150, u151, u152, u153, u154, u155, u156, u157, u158, u159, u160, u161, u162, u163, u164, u165, u166, u167, u168, u169, u170, u171, u172, u173, u174, u175, u176, u177, u178, u179, u180, u181, u182, u183, u184, u185, u186, u187, u188, u189, u190, u191, u192, u193, u194, u195, u196, u197, u198, u199, u200, u201, u202, u203, u204, u205, u206, u207, u208, u209, u210, u211, u212, u213, u214, u215, u216, u217, u218, u219], []⟩ wc := by
  conv => arg 2; whnf
  conv => arg 4; zeta
  obtain ⟨c3, hc3⟩ : ∃ c3, c3 = (decide (mid < e) && decide (e < b)) := ⟨_, rfl⟩
  have HC3 := Lib.hid hc3
  clear hc3
  go_upto_region 43 with fail
  go_cut [213] (fun s213 wx => s213 = .bool c3 ∧ wc = wx)
  case first =>
    by_cases z1 : mid < e <;> by_cases z2 : e < b
    all_goals
      go_wp2_with fail
      go_meet
      exact ⟨by rw [HC3.out]; simp [z1, z2], rfl⟩
  case rest =>
    obtain ⟨rfl, rfl⟩ := hcut
    cases c3 with
    | true =>
      have hz : mid < e ∧ e < b := by have := HC3.out; simpa using this.symm
      have HI := Lib.hid (ih.out mid e b (by omega) (Nat.le_refl _) (by omega) hz.1 hz.2 zs wc HRW.out HRZ.out)
      clear hz
      go_wp2_with (go_at_call 53; refine HI.out.mono ?_; rintro e2 w2 ⟨rfl, hys, hg2⟩; have HYS := Lib.hid hys; clear hys)
      go_end0
      obtain ⟨us, hmu, hru⟩ := HYS.out
      exact ⟨rfl, ⟨us, hdone.out us hmu, hru⟩, gb_trans hg4.out hg2⟩
    | false =>
      have hz : mid = e ∨ e = b := by
        have := HC3.out
        by_cases z1 : mid < e
        · by_cases z2 : e < b
          · simp [z1, z2] at this
          · exact .inr (by omega)
        · exact .inl (by omega)
      have HMU : Hid (Merged ltS zs zs mid e b) := HRZ.out.merged hz
      clear hz
      go_wp2
      go_end0
      exact ⟨rfl, ⟨zs, hdone.out zs HMU.out, HRW.out⟩, hg4.out⟩
set_option maxRecDepth 100000 in
set_option maxHeartbeats 4000000 in
theorem tail41 (base g n c a m b mid s e : Nat) (xs ys : Ps) (w wc : World) (hbn : b ≤ n) (hn : n ≤ 1000) (q1 : mid < b) (q2 : a < mid) (q3 : a ≤ s) (q4 : e ≤ b) (q5 : mid ≤ e) (q6 : s ≤ mid)
    (hdone : Hid (∀ zs us, Merged ltS ys zs a s mid → Merged ltS zs us mid e b → Merged ltS xs us a m b)) (HRN : Hid (Runs ltS ys a s mid ∧ Runs ltS ys mid e b)) (HRW : Hid (Row base g n c wc ys)) (hg3 : Hid (w.grownBy wc (some g)))
    (ih : Hid (∀ a' m' b', a ≤ a' → b' ≤ b → b' - a' < b - a → a' < m' → m' < b' → SymOk base g n c a' m' b')) (u5 u6 u7 u8 u9 u10 u11 u12 u13 u14 u15 u16 u17 u19 u21 u22 u23 u25 u26 u27 u28 u29 u30 u31 u32 u33 u34 u35 u36 u37 u38 u39 u40 u41 u42 u43 u44 u45 u46 u47 u48 u49 u50 u51 u52 u53 u54 u55 u56 u57 u58 u59 u60 u61 u62 u63 u64 u65 u66 u67 u68 u69 u70 u71 u72 u73 u74 u75 u76 u77 u78 u79 u80 u81 u82 u83 u84 u85 u86 u87 u88 u89 u90 u91 u92 u93 u94 u95 u96 u97 u98 u99 u100 u101 u102 u103 u104 u105 u106 u107 u108 u109 u110 u111 u112 u113 u114 u115 u116 u117 u118 u119 u120 u121 u122 u123 u124 u125 u126 u127 u128 u129 u130 u131 u132 u133 u134 u135 u136 u137 u138 u139 u140 u141 u142 u143 u144 u145 u146 u147 u148 u149 u150 u151 u152 u153 u154 u155 u156 u157 u158 u159 u160 u161 u162 u163 u164 u165 u166 u167 u168 u169 u170 u171 u172 u173 u174 u175 u176 u177 u178 u179 u180 u181 u182 u183 u184 u185 u186 u187 u188 u189 u190 u191 u192 u193 u194 u195 u196 u197 u198 u199 u200 u201 u202 u203 u204 u205 u206 u207 u208 u209 u210 u211 u212 u213 u214 u215 u216 u217 u218 u219 : Value) :
    Code.wp Try.prog (symFrom 41) (bodyPost Try.prog Try.f53 (Turned base g n c (fun ys => Merged ltS xs ys a m b) w)) ⟨#[.slice (some ⟨g, 0, none⟩) n c, .int .i64 a, .int .i64 m, .int .i64 b, .func (.func 36) #[] #[], u5, u6, u7, u8, u9, u10, u11, u12, u13, u14, u15, u16, u17, .int .i64 mid, u19, .int .i64 s, u21, u22, u23, .int .i64 e, u25, u26, u27, u28, u29, u30, u31, u32, u33, u34, u35, u36, u37, u38, u39, u40, u41, u42, u43, u44, u45, u46, u47, u48, u49, u50, u51, u52, u53, u54, u55, u56, u57, u58, u59, u60, u61, u62, u63, u64, u65, u66, u67, u68, u69, u70, u71, u72, u73, u74, u75, u76, u77, u78, u79, u80, u81, u82, u83, u84, u85, u86, u87, u88, u89, u90, u91, u92, u93, u94, u95, u96, u97, u98, u99, u100, u101, u102, u103, u104, u105, u106, u107, u108, u109, u110, u111, u112, u113, u114, u115, u116, u117, u118, u119, u120, u121, u122, u123, u124, u125, u126, u127, u128, u129, u130, u131, u132, u133, u134, u135, u136, u137, u138, u139, u140, u141, u142, u143, u144, u145, u146, u147, u148, u149, u150, u151, u152, u153, u154, u155, u156, u157, u158, u159, u160, u161, u162, u163, u164, u165, u166, u167, u168, u169, u170, u171, u172, u173, u174, u175, u176, u177, u178, u179, u180, u181, u182, u183, u184, u185, u186, u187, u188, u189, u190, u191, u192, u193, u194, u195, u196, u197, u198, u199, u200, u201, u202, u203, u204, u205, u206, u207, u208, u209, u210, u211, u212, u213, u214, u215, u216, u217, u218, u219], []⟩ wc := by
  conv => arg 2; whnf
  conv => arg 4; zeta
  obtain ⟨c2, hc2⟩ : ∃ c2, c2 = (decide (a < s) && decide (s < mid)) := ⟨_, rfl⟩
  have HC2 := Lib.hid hc2
  clear hc2
  go_upto_region 41 with fail
  go_cut [199] (fun s199 wx => s199 = .bool c2 ∧ wc = wx)
  case first =>
    by_cases z1 : a < s <;> by_cases z2 : s < mid
    all_goals
      go_wp2_with fail
      go_meet
      exact ⟨by rw [HC2.out]; simp [z1, z2], rfl⟩
  case rest =>
    obtain ⟨rfl, rfl⟩ := hcut
    go_upto_if 199 with fail
    go_cut [] (fun wx => w.grownBy wx (some g) ∧ Hid (∃ zs, Merged ltS ys zs a s mid ∧ Row base g n c wx zs))
    case first =>
      cases c2 with
      | true =>
        have hz : a < s ∧ s < mid := by have := HC2.out; simpa using this.symm
        have HI := Lib.hid (ih.out a s mid (Nat.le_refl _) (by omega) (by omega) hz.1 hz.2 ys wc HRW.out HRN.out.1)
        clear hz
        go_wp2_with (go_at_call 53; refine HI.out.mono ?_; rintro e2 w2 ⟨rfl, hys, hg2⟩; have HYS := Lib.hid hys; clear hys)
        go_meet
        exact ⟨gb_trans hg3.out hg2, HYS⟩
      | false =>
        have hz : a = s ∨ s = mid := by
          have := HC2.out
          by_cases z1 : a < s
          · by_cases z2 : s < mid
            · simp [z1, z2] at this
            · exact .inr (by omega)
          · exact .inl (by omega)
        have HMG : Hid (Merged ltS ys ys a s mid) := HRN.out.1.merged hz
        clear hz
        go_wp2_with fail
        go_meet
        exact ⟨hg3.out, ys, HMG.out, HRW.out⟩
    case rest =>
      obtain ⟨hg4, hzs⟩ := hcut
      obtain ⟨zs, hmg, hrw4⟩ := hzs.out
      rename ∀ (a : Act) (w : World), Code.wp Try.prog _ _ a w → _ => hk
      refine hk _ _ ?_
      exact tail43 base g n c a m b mid e xs zs w _ hbn hn q1 q2 q4 q5 (fun us hu => hdone.out zs us hmg hu) (hmg.runs HRN.out.2) hrw4 hg4 ih _ _ _ _ _ _ _ _ _ _ _ _ _ _ _ _ _ _ _ _ _ _ _ _ _ _ _ _ _ _ _ _ _ _ _ _ _ _ _ _ _ _ _ _ _ _ _ _ _ _ _ _ _ _ _ _ _ _ _ _ _ _ _ _ _ _ _ _ _ _ _ _ _ _ _ _ _ _ _ _ _ _ _ _ _ _ _ _ _ _ _ _ _ _ _ _ _ _ _ _ _ _ _ _ _ _ _ _ _ _ _ _ _ _ _ _ _ _ _ _ _ _ _ _ _ _ _ _ _ _ _ _ _ _ _ _ _ _ _ _ _ _ _ _ _ _ _ _ _ _ _ _ _ _ _ _ _ _ _ _ _ _ _ _ _ _ _ _ _ _ _ _ _ _ _ _ _ _ _ _ _ _ _ _ _ _ _ _ _ _ _ _ _ _ _ _ _ _ _ _ _ _ _ _ _ _ _ _ _ _ _ _ _
set_option maxRecDepth 100000 in
set_option maxHeartbeats 4000000 in
theorem tail38 (base g n c a m b mid n0 s e : Nat) (xs : Ps) (w wc : World) (hbn : b ≤ n) (hn : n ≤ 1000) (ham : a < m) (hmb : m < b) (q1 : mid < b) (q2 : a < mid) (q3 : a ≤ s) (q4 : e ≤ b) (q5 : mid ≤ e) (q6 : s ≤ mid) (hsm : s ≤ m) (hme : m ≤ e) (hn0 : n0 ≤ 2000) (he : e + s = n0) (hsmid : s + (e - m) = mid)
    (HL : Hid (List.length xs = n)) (HCUT : Hid (Cutting ltS xs a m b s e)) (HRW : Hid (Row base g n c wc xs)) (hg0 : Hid (w.grownBy wc (some g)))
    (ih : Hid (∀ a' m' b', a ≤ a' → b' ≤ b → b' - a' < b - a → a' < m' → m' < b' → SymOk base g n c a' m' b')) (u5 u6 u7 u8 u9 u10 u11 u12 u13 u14 u15 u16 u17 u21 u22 u23 u24 u25 u26 u27 u28 u29 u30 u31 u32 u33 u34 u35 u36 u37 u38 u39 u40 u41 u42 u43 u44 u45 u46 u47 u48 u49 u50 u51 u52 u53 u54 u55 u56 u57 u58 u59 u60 u61 u62 u63 u64 u65 u66 u67 u68 u69 u70 u71 u72 u73 u74 u75 u76 u77 u78 u79 u80 u81 u82 u83 u84 u85 u86 u87 u88 u89 u90 u91 u92 u93 u94 u95 u96 u97 u98 u99 u100 u101 u102 u103 u104 u105 u106 u107 u108 u109 u110 u111 u112 u113 u114 u115 u116 u117 u118 u119 u120 u121 u122 u123 u124 u125 u126 u127 u128 u129 u130 u131 u132 u133 u134 u135 u136 u137 u138 u139 u140 u141 u142 u143 u144 u145 u146 u147 u148 u149 u150 u151 u152 u153 u154 u155 u156 u157 u158 u159 u160 u161 u162 u163 u164 u165 u166 u167 u168 u169 u170 u171 u172 u173 u174 u175 u176 u177 u178 u179 u180 u181 u182 u183 u184 u185 u186 u187 u188 u189 u190 u191 u192 u193 u194 u195 u196 u197 u198 u199 u200 u201 u202 u203 u204 u205 u206 u207 u208 u209 u210 u211 u212 u213 u214 u215 u216 u217 u218 u219 : Value) :
    Code.wp Try.prog (symFrom 38) (bodyPost Try.prog Try.f53 (Turned base g n c (fun ys => Merged ltS xs ys a m b) w)) ⟨#[.slice (some ⟨g, 0, none⟩) n c, .int .i64 a, .int .i64 m, .int .i64 b, .func (.func 36) #[] #[], u5, u6, u7, u8, u9, u10, u11, u12, u13, u14, u15, u16, u17, .int .i64 mid, .int .i64 n0, .int .i64 s, u21, u22, u23, u24, u25, u26, u27, u28, u29, u30, u31, u32, u33, u34, u35, u36, u37, u38, u39, u40, u41, u42, u43, u44, u45, u46, u47, u48, u49, u50, u51, u52, u53, u54, u55, u56, u57, u58, u59, u60, u61, u62, u63, u64, u65, u66, u67, u68, u69, u70, u71, u72, u73, u74, u75, u76, u77, u78, u79, u80, u81, u82, u83, u84, u85, u86, u87, u88, u89, u90, u91, u92, u93, u94, u95, u96, u97, u98, u99, u100, u101, u102, u103, u104, u105, u106, u107, u108, u109, u110, u111, u112, u113, u114, u115, u116, u117, u118, u119, u120, u121, u122, u123, u124, u125, u126, u127, u128, u129, u130, u131, u132, u133, u134, u135, u136, u137, u138, u139, u140, u141, u142, u143, u144, u145, u146, u147, u148, u149, u150, u151, u152, u153, u154, u155, u156, u157, u158, u159, u160, u161, u162, u163, u164, u165, u166, u167, u168, u169, u170, u171, u172, u173, u174, u175, u176, u177, u178, u179, u180, u181, u182, u183, u184, u185, u186, u187, u188, u189, u190, u191, u192, u193, u194, u195, u196, u197, u198, u199, u200, u201, u202, u203, u204, u205, u206, u207, u208, u209, u210, u211, u212, u213, u214, u215, u216, u217, u218, u219], []⟩ wc := by
  conv => arg 2; whnf
  conv => arg 4; zeta
  have we : (n0 : Int) - s = (e : Int) := by omega
  have we2 : IntKind.i64.wrap ((n0 : Int) - s) = (e : Int) := by rw [IntWalk.i64_in _ (by omega)]; omega
  have we3 : IntKind.i64.wrap (e : Int) = (e : Int) := IntWalk.i64_in _ (by omega)
  obtain ⟨c1, hc1⟩ : ∃ c1, c1 = (decide (s < m) && decide (m < e)) := ⟨_, rfl⟩
  have HC1 := Lib.hid hc1
  have HSM := Lib.hid hsmid
  clear hc1 hsmid he
  go_upto_region 39 with fail
  go_cut [185] (fun s185 wx => s185 = .bool c1 ∧ wc = wx)
  case first =>
    by_cases z1 : s < m <;> by_cases z2 : m < e
    all_goals
      go_wp2_with fail
      go_meet
      exact ⟨by rw [HC1.out]; simp [z1, z2], rfl⟩
  case rest =>
    obtain ⟨rfl, rfl⟩ := hcut
    go_upto_if 185 with fail
    go_cut [] (fun wx => w.grownBy wx (some g) ∧ Hid (∃ ys, Rotated xs ys s m e ∧ Row base g n c wx ys))
    case first =>
      cases c1 with
      | true =>
        have hz : s < m ∧ m < e := by have := HC1.out; simpa using this.symm
        have HRO := Lib.hid (rotate_any base g n c s m e (.func (.func 36) #[] #[]) xs wc HRW.out hz.1 hz.2 (by omega) hn)
        clear hz
        go_wp2_with (go_at_call 55; refine HRO.out.mono ?_; rintro e2 w2 ⟨rfl, hys, hg2⟩; have HYS := Lib.hid hys; clear hys)
        go_meet
        exact ⟨gb_trans hg0.out hg2, HYS⟩
      | false =>
        have hz : s = m ∨ m = e := by
          have := HC1.out
          by_cases z1 : s < m
          · by_cases z2 : m < e
            · simp [z1, z2] at this
            · exact .inr (by omega)
          · exact .inl (by omega)
        have HRO : Hid (Rotated xs xs s m e) := Rotated.none xs hsm hme (by have := HL.out; omega) hz
        clear hz
        go_wp2_with fail
        go_meet
        exact ⟨hg0.out, xs, HRO.out, HRW.out⟩
    case rest =>
      obtain ⟨hg3, hys3⟩ := hcut
      obtain ⟨ys, hrot, hrw3⟩ := hys3.out
      have hrn := HCUT.out.runs hrot
      have hdone : ∀ zs us, Merged ltS ys zs a s mid → Merged ltS zs us mid e b → Merged ltS xs us a m b := fun zs us h1 h2 =>
        HCUT.out.done tot_str hrot (by rw [HSM.out]; exact h1) (by rw [HSM.out]; exact h2)
      rw [HSM.out] at hrn
      rename ∀ (a : Act) (w : World), Code.wp Try.prog _ _ a w → _ => hk
      refine hk _ _ ?_
      exact tail41 base g n c a m b mid s e xs ys w _ hbn hn q1 q2 q3 q4 q5 q6 hdone hrn hrw3 hg3 ih _ _ _ _ _ _ _ _ _ _ _ _ _ _ _ _ _ _ _ _ _ _ _ _ _ _ _ _ _ _ _ _ _ _ _ _ _ _ _ _ _ _ _ _ _ _ _ _ _ _ _ _ _ _ _ _ _ _ _ _ _ _ _ _ _ _ _ _ _ _ _ _ _ _ _ _ _ _ _ _ _ _ _ _ _ _ _ _ _ _ _ _ _ _ _ _ _ _ _ _ _ _ _ _ _ _ _ _ _ _ _ _ _ _ _ _ _ _ _ _ _ _ _ _ _ _ _ _ _ _ _ _ _ _ _ _ _ _ _ _ _ _ _ _ _ _ _ _ _ _ _ _ _ _ _ _ _ _ _ _ _ _ _ _ _ _ _ _ _ _ _ _ _ _ _ _ _ _ _ _ _ _ _ _ _ _ _ _ _ _ _ _ _ _ _ _ _ _ _ _ _ _ _ _ _ _ _ _ _ _ _ _
end SortS
end Go.Proofs.Ytolfockpiioncaa
