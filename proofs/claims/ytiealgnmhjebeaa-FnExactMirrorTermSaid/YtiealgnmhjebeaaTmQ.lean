/- TmR TmW2 TmT in one text. -/
import Derived.Test.YtiealgnmhjebeaaTmL
import Derived.Test.YtiealgnmhjebeaaTmN
import Derived.Test.YtiealgnmhjebeaaTmJ
import Derived.Test.YtiealgnmhjebeaaTmP
import Derived.Test.YtiealgnmhjebeaaTmB
import Derived.Deep.RegionHeld3
import Derived.Test.YtiealgnmhjebeaaPtA
import Derived.Test.YtiealgnmhjebeaaRetIIB
import Derived.BigQuiet
/-! The model's scan of a term: its loop. -/
namespace Go.Proofs.Ytiealgnmhjebeaa
set_option maxRecDepth 100000
open Go Go.RowKit Go.Deep

theorem round_mono {P : Program} {fn : Func} {c : Code} {I : Act → World → Prop} {R : Ending → World → Prop} {K K' : Act → World → Prop} {a : Act} {w : World} (h : Code.wp P c (Exit.then I (Exit.then K (bodyPost P fn R))) a w) : Code.wp P c (Exit.then I (Exit.inBlock 0 (Exit.then K' (bodyPost P fn R)))) a w :=
  Code.wp_mono (fun e a w hq => by cases e <;> first | exact hq | exact hq.elim) h
set_option maxRecDepth 1000000 in
set_option maxHeartbeats 6400000 in
theorem scan_round (w : World) (B : Nat) (A : Option Addr) (c : Nat) (x : List Nd) (HV : Hid (RdN w (fun b => b < B) (.slice A x.length c) x)) (HB : Hid (B ≤ w.heap.size)) (hxl : x.length ≤ 9223372036854775807) (hl1 : 1 ≤ x.length) (hl2 : x.length ≤ 400) (K : Act → World → Prop) (c1 c2 c16 c17 c18 c19 c20 c21 c22 c202 c203 c204 c205 c206 c207 c208 c209 c210 c211 : Value) (hK : ∀ a w'', WX w A c x c1 c2 c16 c17 c18 c19 c20 c21 c22 c202 c203 c204 c205 c206 c207 c208 c209 c210 c211 a w'' → K a w'') (a : Act) (wr : World) (hI : WI w A c x c1 c2 c16 c17 c18 c19 c20 c21 c22 c202 c203 c204 c205 c206 c207 c208 c209 c210 c211 a wr) :
    Code.wp Try.prog scanBody (Exit.then (fun a' w'' => WI w A c x c1 c2 c16 c17 c18 c19 c20 c21 c22 c202 c203 c204 c205 c206 c207 c208 c209 c210 c211 a' w'' ∧ Wmu x a' < Wmu x a) (Exit.inBlock 0 (Exit.then K (bodyPost Try.prog Try.f94 (ScanSaid w x))))) a wr := by
  unfold WI at hI
  obtain ⟨u5, hI⟩ := hI
  obtain ⟨u7, hI⟩ := hI
  obtain ⟨u8, hI⟩ := hI
  obtain ⟨u9, hI⟩ := hI
  obtain ⟨u10, hI⟩ := hI
  obtain ⟨u11, hI⟩ := hI
  obtain ⟨u12, hI⟩ := hI
  obtain ⟨u13, hI⟩ := hI
  obtain ⟨u14, hI⟩ := hI
  obtain ⟨u15, hI⟩ := hI
  obtain ⟨u25, hI⟩ := hI
  obtain ⟨u26, hI⟩ := hI
  obtain ⟨u27, hI⟩ := hI
  obtain ⟨u28, hI⟩ := hI
  obtain ⟨u29, hI⟩ := hI
  obtain ⟨u30, hI⟩ := hI
  obtain ⟨u31, hI⟩ := hI
  obtain ⟨u32, hI⟩ := hI
  obtain ⟨u33, hI⟩ := hI
  obtain ⟨u34, hI⟩ := hI
  obtain ⟨u35, hI⟩ := hI
  obtain ⟨u36, hI⟩ := hI
  obtain ⟨u37, hI⟩ := hI
  obtain ⟨u38, hI⟩ := hI
  obtain ⟨u39, hI⟩ := hI
  obtain ⟨u40, hI⟩ := hI
  obtain ⟨u41, hI⟩ := hI
  obtain ⟨u42, hI⟩ := hI
  obtain ⟨u43, hI⟩ := hI
  obtain ⟨u44, hI⟩ := hI
  obtain ⟨u45, hI⟩ := hI
  obtain ⟨u46, hI⟩ := hI
  obtain ⟨u47, hI⟩ := hI
  obtain ⟨u48, hI⟩ := hI
  obtain ⟨u49, hI⟩ := hI
  obtain ⟨u50, hI⟩ := hI
  obtain ⟨u51, hI⟩ := hI
  obtain ⟨u52, hI⟩ := hI
  obtain ⟨u53, hI⟩ := hI
  obtain ⟨u54, hI⟩ := hI
  obtain ⟨u55, hI⟩ := hI
  obtain ⟨u56, hI⟩ := hI
  obtain ⟨u57, hI⟩ := hI
  obtain ⟨u58, hI⟩ := hI
  obtain ⟨u59, hI⟩ := hI
  obtain ⟨u60, hI⟩ := hI
  obtain ⟨u61, hI⟩ := hI
  obtain ⟨u62, hI⟩ := hI
  obtain ⟨u63, hI⟩ := hI
  obtain ⟨u64, hI⟩ := hI
  obtain ⟨u65, hI⟩ := hI
  obtain ⟨u66, hI⟩ := hI
  obtain ⟨u67, hI⟩ := hI
  obtain ⟨u68, hI⟩ := hI
  obtain ⟨u69, hI⟩ := hI
  obtain ⟨u70, hI⟩ := hI
  obtain ⟨u71, hI⟩ := hI
  obtain ⟨u72, hI⟩ := hI
  obtain ⟨u73, hI⟩ := hI
  obtain ⟨u74, hI⟩ := hI
  obtain ⟨u75, hI⟩ := hI
  obtain ⟨u76, hI⟩ := hI
  obtain ⟨u77, hI⟩ := hI
  obtain ⟨u78, hI⟩ := hI
  obtain ⟨u79, hI⟩ := hI
  obtain ⟨u80, hI⟩ := hI
  obtain ⟨u81, hI⟩ := hI
  obtain ⟨u82, hI⟩ := hI
  obtain ⟨u83, hI⟩ := hI
  obtain ⟨u84, hI⟩ := hI
  obtain ⟨u85, hI⟩ := hI
  obtain ⟨u86, hI⟩ := hI
  obtain ⟨u87, hI⟩ := hI
  obtain ⟨u88, hI⟩ := hI
  obtain ⟨u89, hI⟩ := hI
  obtain ⟨u90, hI⟩ := hI
  obtain ⟨u91, hI⟩ := hI
  obtain ⟨u92, hI⟩ := hI
  obtain ⟨u93, hI⟩ := hI
  obtain ⟨u94, hI⟩ := hI
  obtain ⟨u95, hI⟩ := hI
  obtain ⟨u96, hI⟩ := hI
  obtain ⟨u97, hI⟩ := hI
  obtain ⟨u98, hI⟩ := hI
  obtain ⟨u99, hI⟩ := hI
  obtain ⟨u100, hI⟩ := hI
  obtain ⟨u101, hI⟩ := hI
  obtain ⟨u102, hI⟩ := hI
  obtain ⟨u103, hI⟩ := hI
  obtain ⟨u104, hI⟩ := hI
  obtain ⟨u105, hI⟩ := hI
  obtain ⟨u106, hI⟩ := hI
  obtain ⟨u107, hI⟩ := hI
  obtain ⟨u108, hI⟩ := hI
  obtain ⟨u109, hI⟩ := hI
  obtain ⟨u110, hI⟩ := hI
  obtain ⟨u111, hI⟩ := hI
  obtain ⟨u112, hI⟩ := hI
  obtain ⟨u113, hI⟩ := hI
  obtain ⟨u114, hI⟩ := hI
  obtain ⟨u115, hI⟩ := hI
  obtain ⟨u116, hI⟩ := hI
  obtain ⟨u117, hI⟩ := hI
  obtain ⟨u118, hI⟩ := hI
  obtain ⟨u119, hI⟩ := hI
  obtain ⟨u120, hI⟩ := hI
  obtain ⟨u121, hI⟩ := hI
  obtain ⟨u122, hI⟩ := hI
  obtain ⟨u123, hI⟩ := hI
  obtain ⟨u124, hI⟩ := hI
  obtain ⟨u125, hI⟩ := hI
  obtain ⟨u126, hI⟩ := hI
  obtain ⟨u127, hI⟩ := hI
  obtain ⟨u128, hI⟩ := hI
  obtain ⟨u129, hI⟩ := hI
  obtain ⟨u130, hI⟩ := hI
  obtain ⟨u131, hI⟩ := hI
  obtain ⟨u132, hI⟩ := hI
  obtain ⟨u133, hI⟩ := hI
  obtain ⟨u134, hI⟩ := hI
  obtain ⟨u135, hI⟩ := hI
  obtain ⟨u136, hI⟩ := hI
  obtain ⟨u137, hI⟩ := hI
  obtain ⟨u138, hI⟩ := hI
  obtain ⟨u139, hI⟩ := hI
  obtain ⟨u140, hI⟩ := hI
  obtain ⟨u141, hI⟩ := hI
  obtain ⟨u142, hI⟩ := hI
  obtain ⟨u143, hI⟩ := hI
  obtain ⟨u144, hI⟩ := hI
  obtain ⟨u145, hI⟩ := hI
  obtain ⟨u146, hI⟩ := hI
  obtain ⟨u147, hI⟩ := hI
  obtain ⟨u148, hI⟩ := hI
  obtain ⟨u149, hI⟩ := hI
  obtain ⟨u150, hI⟩ := hI
  obtain ⟨u151, hI⟩ := hI
  obtain ⟨u152, hI⟩ := hI
  obtain ⟨u153, hI⟩ := hI
  obtain ⟨u154, hI⟩ := hI
  obtain ⟨u155, hI⟩ := hI
  obtain ⟨u156, hI⟩ := hI
  obtain ⟨u157, hI⟩ := hI
  obtain ⟨u158, hI⟩ := hI
  obtain ⟨u159, hI⟩ := hI
  obtain ⟨u160, hI⟩ := hI
  obtain ⟨u161, hI⟩ := hI
  obtain ⟨u162, hI⟩ := hI
  obtain ⟨u163, hI⟩ := hI
  obtain ⟨u164, hI⟩ := hI
  obtain ⟨u165, hI⟩ := hI
  obtain ⟨u166, hI⟩ := hI
  obtain ⟨u167, hI⟩ := hI
  obtain ⟨u168, hI⟩ := hI
  obtain ⟨u169, hI⟩ := hI
  obtain ⟨u170, hI⟩ := hI
  obtain ⟨u171, hI⟩ := hI
  obtain ⟨u172, hI⟩ := hI
  obtain ⟨u173, hI⟩ := hI
  obtain ⟨u174, hI⟩ := hI
  obtain ⟨u175, hI⟩ := hI
  obtain ⟨u176, hI⟩ := hI
  obtain ⟨u177, hI⟩ := hI
  obtain ⟨u178, hI⟩ := hI
  obtain ⟨u179, hI⟩ := hI
  obtain ⟨u180, hI⟩ := hI
  obtain ⟨u181, hI⟩ := hI
  obtain ⟨u182, hI⟩ := hI
  obtain ⟨u183, hI⟩ := hI
  obtain ⟨u184, hI⟩ := hI
  obtain ⟨u185, hI⟩ := hI
  obtain ⟨u186, hI⟩ := hI
  obtain ⟨u187, hI⟩ := hI
  obtain ⟨u188, hI⟩ := hI
  obtain ⟨u189, hI⟩ := hI
  obtain ⟨u190, hI⟩ := hI
  obtain ⟨u191, hI⟩ := hI
  obtain ⟨u192, hI⟩ := hI
  obtain ⟨u193, hI⟩ := hI
  obtain ⟨u194, hI⟩ := hI
  obtain ⟨u195, hI⟩ := hI
  obtain ⟨u196, hI⟩ := hI
  obtain ⟨u197, hI⟩ := hI
  obtain ⟨u198, hI⟩ := hI
  obtain ⟨u199, hI⟩ := hI
  obtain ⟨u200, hI⟩ := hI
  obtain ⟨u201, hI⟩ := hI
  obtain ⟨hrel, rfl⟩ := hI
  unfold ScRel at hrel
  obtain ⟨k, X, v0, v1, v2, hk, rfl, HSC, HG, HBW, HT, HR, HX⟩ := hrel
  by_cases hlt : k < x.length
  · by_cases hl : isLeafB (x.getD k nd0) = true
    · exact round_mono (scan_L w wr B A c x HV HB hxl hl1 hl2 k X v0 v1 v2 hk HSC HG HBW HT HR HX hlt hl (fun _ _ => False) c1 c2 c16 c17 c18 c19 c20 c21 c22 c202 c203 c204 c205 c206 c207 c208 c209 c210 c211 u5 u7 u8 u9 u10 u11 u12 u13 u14 u15 u26 u27 u28 u29 u30 u31 u32 u33 u34 u35 u36 u37 u38 u39 u40 u41 u42 u43 u44 u45 u46 u47 u48 u49 u50 u51 u52 u53 u54 u55 u56 u57 u58 u59 u60 u61 u62 u63 u64 u65 u66 u67 u68 u69 u70 u71 u72 u73 u74 u75 u76 u77 u78 u79 u80 u81 u82 u83 u84 u85 u86 u87 u88 u89 u90 u91 u92 u93 u94 u95 u96 u97 u98 u99 u100 u101 u102 u103 u104 u105 u106 u107 u108 u109 u110 u111 u112 u113 u114 u115 u116 u117 u118 u119 u120 u121 u122 u123 u124 u125 u126 u127 u128 u129 u130 u131 u132 u133 u134 u135 u136 u137 u138 u139 u140 u141 u142 u143 u144 u145 u146 u147 u148 u149 u150 u151 u152 u153 u154 u155 u156 u157 u158 u159 u160 u161 u162 u163 u164 u165 u166 u167 u168 u169 u170 u171 u172 u173 u174 u175 u176 u177 u178 u179 u180 u181 u182 u183 u184 u185 u186 u187 u188 u189 u190 u191 u192 u193 u194 u195 u196 u197 u198 u199 u200 u201)
    · have hl0 : isLeafB (x.getD k nd0) = false := by simpa using hl
      by_cases hj : isJointB (x.getD k nd0) = true
      · cases hs : stepS X k (x.getD k nd0) with
        | none => exact round_mono (scan_B w wr B A c x HV HB hxl hl1 hl2 k X v0 v1 v2 hk HSC HG HBW HT HR HX hlt ⟨hj, Lib.hid hs⟩ (fun _ _ => False) c1 c2 c16 c17 c18 c19 c20 c21 c22 c202 c203 c204 c205 c206 c207 c208 c209 c210 c211 u5 u7 u8 u9 u10 u11 u12 u13 u14 u15 u26 u27 u28 u29 u30 u31 u32 u33 u34 u35 u36 u37 u38 u39 u40 u41 u42 u43 u44 u45 u46 u47 u48 u49 u50 u51 u52 u53 u54 u55 u56 u57 u58 u59 u60 u61 u62 u63 u64 u65 u66 u67 u68 u69 u70 u71 u72 u73 u74 u75 u76 u77 u78 u79 u80 u81 u82 u83 u84 u85 u86 u87 u88 u89 u90 u91 u92 u93 u94 u95 u96 u97 u98 u99 u100 u101 u102 u103 u104 u105 u106 u107 u108 u109 u110 u111 u112 u113 u114 u115 u116 u117 u118 u119 u120 u121 u122 u123 u124 u125 u126 u127 u128 u129 u130 u131 u132 u133 u134 u135 u136 u137 u138 u139 u140 u141 u142 u143 u144 u145 u146 u147 u148 u149 u150 u151 u152 u153 u154 u155 u156 u157 u158 u159 u160 u161 u162 u163 u164 u165 u166 u167 u168 u169 u170 u171 u172 u173 u174 u175 u176 u177 u178 u179 u180 u181 u182 u183 u184 u185 u186 u187 u188 u189 u190 u191 u192 u193 u194 u195 u196 u197 u198 u199 u200 u201)
        | some X2 =>
          have hne : Hid (stepS X k (x.getD k nd0) ≠ none) := Lib.hid (by rw [hs]; simp)
          rcases joint_kind hj with h | h
          · exact round_mono (scan_S w wr B A c x HV HB hxl hl1 hl2 k X v0 v1 v2 hk HSC HG HBW HT HR HX hlt ⟨hj, h, hne⟩ (fun _ _ => False) c1 c2 c16 c17 c18 c19 c20 c21 c22 c202 c203 c204 c205 c206 c207 c208 c209 c210 c211 u5 u7 u8 u9 u10 u11 u12 u13 u14 u15 u26 u27 u28 u29 u30 u31 u32 u33 u34 u35 u36 u37 u38 u39 u40 u41 u42 u43 u44 u45 u46 u47 u48 u49 u50 u51 u52 u53 u54 u55 u56 u57 u58 u59 u60 u61 u62 u63 u64 u65 u66 u67 u68 u69 u70 u71 u72 u73 u74 u75 u76 u77 u78 u79 u80 u81 u82 u83 u84 u85 u86 u87 u88 u89 u90 u91 u92 u93 u94 u95 u96 u97 u98 u99 u100 u101 u102 u103 u104 u105 u106 u107 u108 u109 u110 u111 u112 u113 u114 u115 u116 u117 u118 u119 u120 u121 u122 u123 u124 u125 u126 u127 u128 u129 u130 u131 u132 u133 u134 u135 u136 u137 u138 u139 u140 u141 u142 u143 u144 u145 u146 u147 u148 u149 u150 u151 u152 u153 u154 u155 u156 u157 u158 u159 u160 u161 u162 u163 u164 u165 u166 u167 u168 u169 u170 u171 u172 u173 u174 u175 u176 u177 u178 u179 u180 u181 u182 u183 u184 u185 u186 u187 u188 u189 u190 u191 u192 u193 u194 u195 u196 u197 u198 u199 u200 u201)
          · exact round_mono (scan_P w wr B A c x HV HB hxl hl1 hl2 k X v0 v1 v2 hk HSC HG HBW HT HR HX hlt ⟨hj, h, hne⟩ (fun _ _ => False) c1 c2 c16 c17 c18 c19 c20 c21 c22 c202 c203 c204 c205 c206 c207 c208 c209 c210 c211 u5 u7 u8 u9 u10 u11 u12 u13 u14 u15 u26 u27 u28 u29 u30 u31 u32 u33 u34 u35 u36 u37 u38 u39 u40 u41 u42 u43 u44 u45 u46 u47 u48 u49 u50 u51 u52 u53 u54 u55 u56 u57 u58 u59 u60 u61 u62 u63 u64 u65 u66 u67 u68 u69 u70 u71 u72 u73 u74 u75 u76 u77 u78 u79 u80 u81 u82 u83 u84 u85 u86 u87 u88 u89 u90 u91 u92 u93 u94 u95 u96 u97 u98 u99 u100 u101 u102 u103 u104 u105 u106 u107 u108 u109 u110 u111 u112 u113 u114 u115 u116 u117 u118 u119 u120 u121 u122 u123 u124 u125 u126 u127 u128 u129 u130 u131 u132 u133 u134 u135 u136 u137 u138 u139 u140 u141 u142 u143 u144 u145 u146 u147 u148 u149 u150 u151 u152 u153 u154 u155 u156 u157 u158 u159 u160 u161 u162 u163 u164 u165 u166 u167 u168 u169 u170 u171 u172 u173 u174 u175 u176 u177 u178 u179 u180 u181 u182 u183 u184 u185 u186 u187 u188 u189 u190 u191 u192 u193 u194 u195 u196 u197 u198 u199 u200 u201)
      · have hj0 : isJointB (x.getD k nd0) = false := by simpa using hj
        exact round_mono (scan_N w wr B A c x HV HB hxl hl1 hl2 k X v0 v1 v2 hk HSC HG HBW HT HR HX hlt ⟨hl0, hj0⟩ (fun _ _ => False) c1 c2 c16 c17 c18 c19 c20 c21 c22 c202 c203 c204 c205 c206 c207 c208 c209 c210 c211 u5 u7 u8 u9 u10 u11 u12 u13 u14 u15 u26 u27 u28 u29 u30 u31 u32 u33 u34 u35 u36 u37 u38 u39 u40 u41 u42 u43 u44 u45 u46 u47 u48 u49 u50 u51 u52 u53 u54 u55 u56 u57 u58 u59 u60 u61 u62 u63 u64 u65 u66 u67 u68 u69 u70 u71 u72 u73 u74 u75 u76 u77 u78 u79 u80 u81 u82 u83 u84 u85 u86 u87 u88 u89 u90 u91 u92 u93 u94 u95 u96 u97 u98 u99 u100 u101 u102 u103 u104 u105 u106 u107 u108 u109 u110 u111 u112 u113 u114 u115 u116 u117 u118 u119 u120 u121 u122 u123 u124 u125 u126 u127 u128 u129 u130 u131 u132 u133 u134 u135 u136 u137 u138 u139 u140 u141 u142 u143 u144 u145 u146 u147 u148 u149 u150 u151 u152 u153 u154 u155 u156 u157 u158 u159 u160 u161 u162 u163 u164 u165 u166 u167 u168 u169 u170 u171 u172 u173 u174 u175 u176 u177 u178 u179 u180 u181 u182 u183 u184 u185 u186 u187 u188 u189 u190 u191 u192 u193 u194 u195 u196 u197 u198 u199 u200 u201)
  · have hke : k = x.length := by omega
    have hkI : ¬ (k : Int) < (x.length : Int) := by omega
    have HEND : Hid (ScEnd w A c x wr) := Lib.hid ⟨X, v0, v1, v2, by have h := HSC; rw [hke, List.take_length] at h; exact h, by rw [← hke]; exact HG, HBW, HT, HR, HX⟩
    clear HSC HG HBW HT HR HX
    conv => arg 2; whnf
    go_wp2
    all_goals first
      | (unfold WX; refine ⟨_, _, _, _, _, _, _, _, _, _, _, _, _, _, _, _, _, _, _, _, _, _, _, _, _, _, _, _, _, _, _, _, _, _, _, _, _, _, _, _, _, _, _, _, _, _, _, _, _, _, _, _, _, _, _, _, _, _, _, _, _, _, _, _, _, _, _, _, _, _, _, _, _, _, _, _, _, _, _, _, _, _, _, _, _, _, _, _, _, _, _, _, _, _, _, _, _, _, _, _, _, _, _, _, _, _, _, _, _, _, _, _, _, _, _, _, _, _, _, _, _, _, _, _, _, _, _, _, _, _, _, _, _, _, _, _, _, _, _, _, _, _, _, _, _, _, _, _, _, _, _, _, _, _, _, _, _, _, _, _, _, _, _, _, _, _, _, _, _, _, _, _, _, _, _, _, _, _, _, _, _, _, _, _, _, _, _, ?_, rfl⟩; exact HEND.out)
      | (refine hK _ _ ?_; unfold WX; refine ⟨_, _, _, _, _, _, _, _, _, _, _, _, _, _, _, _, _, _, _, _, _, _, _, _, _, _, _, _, _, _, _, _, _, _, _, _, _, _, _, _, _, _, _, _, _, _, _, _, _, _, _, _, _, _, _, _, _, _, _, _, _, _, _, _, _, _, _, _, _, _, _, _, _, _, _, _, _, _, _, _, _, _, _, _, _, _, _, _, _, _, _, _, _, _, _, _, _, _, _, _, _, _, _, _, _, _, _, _, _, _, _, _, _, _, _, _, _, _, _, _, _, _, _, _, _, _, _, _, _, _, _, _, _, _, _, _, _, _, _, _, _, _, _, _, _, _, _, _, _, _, _, _, _, _, _, _, _, _, _, _, _, _, _, _, _, _, _, _, _, _, _, _, _, _, _, _, _, _, _, _, _, _, _, _, _, _, _, ?_, rfl⟩; exact HEND.out)
theorem scan_loop (w : World) (B : Nat) (A : Option Addr) (c : Nat) (x : List Nd) (HV : Hid (RdN w (fun b => b < B) (.slice A x.length c) x)) (HB : Hid (B ≤ w.heap.size)) (hxl : x.length ≤ 9223372036854775807) (hl1 : 1 ≤ x.length) (hl2 : x.length ≤ 400) (K : Act → World → Prop) (c1 c2 c16 c17 c18 c19 c20 c21 c22 c202 c203 c204 c205 c206 c207 c208 c209 c210 c211 : Value) (hK : ∀ a w'', WX w A c x c1 c2 c16 c17 c18 c19 c20 c21 c22 c202 c203 c204 c205 c206 c207 c208 c209 c210 c211 a w'' → K a w'') (u5 u7 u8 u9 u10 u11 u12 u13 u14 u15 u25 u26 u27 u28 u29 u30 u31 u32 u33 u34 u35 u36 u37 u38 u39 u40 u41 u42 u43 u44 u45 u46 u47 u48 u49 u50 u51 u52 u53 u54 u55 u56 u57 u58 u59 u60 u61 u62 u63 u64 u65 u66 u67 u68 u69 u70 u71 u72 u73 u74 u75 u76 u77 u78 u79 u80 u81 u82 u83 u84 u85 u86 u87 u88 u89 u90 u91 u92 u93 u94 u95 u96 u97 u98 u99 u100 u101 u102 u103 u104 u105 u106 u107 u108 u109 u110 u111 u112 u113 u114 u115 u116 u117 u118 u119 u120 u121 u122 u123 u124 u125 u126 u127 u128 u129 u130 u131 u132 u133 u134 u135 u136 u137 u138 u139 u140 u141 u142 u143 u144 u145 u146 u147 u148 u149 u150 u151 u152 u153 u154 u155 u156 u157 u158 u159 u160 u161 u162 u163 u164 u165 u166 u167 u168 u169 u170 u171 u172 u173 u174 u175 u176 u177 u178 u179 u180 u181 u182 u183 u184 u185 u186 u187 u188 u189 u190 u191 u192 u193 u194 u195 u196 u197 u198 u199 u200 u201 : Value) (wr : World) (hrel : ScRel w A c x u25 wr) :
    Code.wp Try.prog (Code.loop scanBody) (Exit.inBlock 0 (Exit.then K (bodyPost Try.prog Try.f94 (ScanSaid w x)))) ⟨#[.slice none 0 0, c1, c2, .pointer (some ⟨w.heap.size, 0, none⟩), .pointer (some ⟨w.heap.size + 1, 0, none⟩), u5, .pointer (some ⟨w.heap.size + 2, 0, none⟩), u7, u8, u9, u10, u11, u12, u13, u14, u15, c16, c17, c18, c19, c20, c21, c22, .slice A x.length c, .int .i64 x.length, u25, u26, u27, u28, u29, u30, u31, u32, u33, u34, u35, u36, u37, u38, u39, u40, u41, u42, u43, u44, u45, u46, u47, u48, u49, u50, u51, u52, u53, u54, u55, u56, u57, u58, u59, u60, u61, u62, u63, u64, u65, u66, u67, u68, u69, u70, u71, u72, u73, u74, u75, u76, u77, u78, u79, u80, u81, u82, u83, u84, u85, u86, u87, u88, u89, u90, u91, u92, u93, u94, u95, u96, u97, u98, u99, u100, u101, u102, u103, u104, u105, u106, u107, u108, u109, u110, u111, u112, u113, u114, u115, u116, u117, u118, u119, u120, u121, u122, u123, u124, u125, u126, u127, u128, u129, u130, u131, u132, u133, u134, u135, u136, u137, u138, u139, u140, u141, u142, u143, u144, u145, u146, u147, u148, u149, u150, u151, u152, u153, u154, u155, u156, u157, u158, u159, u160, u161, u162, u163, u164, u165, u166, u167, u168, u169, u170, u171, u172, u173, u174, u175, u176, u177, u178, u179, u180, u181, u182, u183, u184, u185, u186, u187, u188, u189, u190, u191, u192, u193, u194, u195, u196, u197, u198, u199, u200, u201, c202, c203, c204, c205, c206, c207, c208, c209, c210, c211], []⟩ wr := by
  refine wp_loop (WI w A c x c1 c2 c16 c17 c18 c19 c20 c21 c22 c202 c203 c204 c205 c206 c207 c208 c209 c210 c211) (fun a' _ => Wmu x a') ?_ (fun a w'' hI => scan_round w B A c x HV HB hxl hl1 hl2 K c1 c2 c16 c17 c18 c19 c20 c21 c22 c202 c203 c204 c205 c206 c207 c208 c209 c210 c211 hK a w'' hI)
  unfold WI
  exact ⟨u5, u7, u8, u9, u10, u11, u12, u13, u14, u15, u25, u26, u27, u28, u29, u30, u31, u32, u33, u34, u35, u36, u37, u38, u39, u40, u41, u42, u43, u44, u45, u46, u47, u48, u49, u50, u51, u52, u53, u54, u55, u56, u57, u58, u59, u60, u61, u62, u63, u64, u65, u66, u67, u68, u69, u70, u71, u72, u73, u74, u75, u76, u77, u78, u79, u80, u81, u82, u83, u84, u85, u86, u87, u88, u89, u90, u91, u92, u93, u94, u95, u96, u97, u98, u99, u100, u101, u102, u103, u104, u105, u106, u107, u108, u109, u110, u111, u112, u113, u114, u115, u116, u117, u118, u119, u120, u121, u122, u123, u124, u125, u126, u127, u128, u129, u130, u131, u132, u133, u134, u135, u136, u137, u138, u139, u140, u141, u142, u143, u144, u145, u146, u147, u148, u149, u150, u151, u152, u153, u154, u155, u156, u157, u158, u159, u160, u161, u162, u163, u164, u165, u166, u167, u168, u169, u170, u171, u172, u173, u174, u175, u176, u177, u178, u179, u180, u181, u182, u183, u184, u185, u186, u187, u188, u189, u190, u191, u192, u193, u194, u195, u196, u197, u198, u199, u200, u201, hrel, rfl⟩
end Go.Proofs.Ytiealgnmhjebeaa

/-! The model's scan of a term (no library). -/
namespace Go.Proofs.Ytiealgnmhjebeaa
open Go Go.RowKit Go.Deep

def KB (b0 b1 b2 : Nat) (w0 w : World) : Prop := w.heap[b0]? = w0.heap[b0]? ∧ w.heap[b1]? = w0.heap[b1]? ∧ w.heap[b2]? = w0.heap[b2]?
theorem KB.set {b0 b1 b2 q j : Nat} {w0 w : World} {u : Value} (h : KB b0 b1 b2 w0 w) (h0 : q ≠ b0) (h1 : q ≠ b1) (h2 : q ≠ b2) : KB b0 b1 b2 w0 (w.setCell ⟨q, j, none⟩ u) :=
  ⟨(blk_setCell_other _ _ _ _ (by dsimp only; omega)).trans h.1, (blk_setCell_other _ _ _ _ (by dsimp only; omega)).trans h.2.1, (blk_setCell_other _ _ _ _ (by dsimp only; omega)).trans h.2.2⟩
set_option maxRecDepth 1000000 in
set_option maxHeartbeats 6400000 in
theorem lbScan_any (w : World) (B : Nat) (v : Value) (x : List Nd) (hv : LfN w B v x) (hB : B ≤ w.heap.size) :
    Calls Try.prog 94 #[.slice none 0 0, .agg #[v]] w (ScanSaid w x) := by
  obtain ⟨i0, hi0, hz0, hz1, hz2⟩ := info_parts infoI
  obtain ⟨A, c, rfl⟩ := hv.len
  have HV := Lib.hid hv.1
  have HB := Lib.hid hB
  have hxl := hv.2.1
  clear hv hB
  by_cases hl : 1 ≤ x.length ∧ x.length ≤ 400
  · obtain ⟨hl1, hl2⟩ := hl
    go_enter Try.func94, Try.ntmps94
    go_wp2_with (go_at_call 43; refine (l1In_t _ _ _ _ (by omega) (by omega)).mono ?_; rintro e w' ⟨rfl, rfl⟩)
    refine scan_loop w B A c x HV HB hxl hl1 hl2 _ _ _ _ _ _ _ _ _ _ _ _ _ _ _ _ _ _ _ _ ?_ _ _ _ _ _ _ _ _ _ _ _ _ _ _ _ _ _ _ _ _ _ _ _ _ _ _ _ _ _ _ _ _ _ _ _ _ _ _ _ _ _ _ _ _ _ _ _ _ _ _ _ _ _ _ _ _ _ _ _ _ _ _ _ _ _ _ _ _ _ _ _ _ _ _ _ _ _ _ _ _ _ _ _ _ _ _ _ _ _ _ _ _ _ _ _ _ _ _ _ _ _ _ _ _ _ _ _ _ _ _ _ _ _ _ _ _ _ _ _ _ _ _ _ _ _ _ _ _ _ _ _ _ _ _ _ _ _ _ _ _ _ _ _ _ _ _ _ _ _ _ _ _ _ _ _ _ _ _ _ _ _ _ _ _ _ _ _ _ _ _ _ _ _ _ _ _ _ _ _ _ _ _ _ _ _ _ _ _ ?_
    · intro a wr hI
      unfold WX at hI
      obtain ⟨u5, hI⟩ := hI
      obtain ⟨u7, hI⟩ := hI
      obtain ⟨u8, hI⟩ := hI
      obtain ⟨u9, hI⟩ := hI
      obtain ⟨u10, hI⟩ := hI
      obtain ⟨u11, hI⟩ := hI
      obtain ⟨u12, hI⟩ := hI
      obtain ⟨u13, hI⟩ := hI
      obtain ⟨u14, hI⟩ := hI
      obtain ⟨u15, hI⟩ := hI
      obtain ⟨u25, hI⟩ := hI
      obtain ⟨u26, hI⟩ := hI
      obtain ⟨u27, hI⟩ := hI
      obtain ⟨u28, hI⟩ := hI
      obtain ⟨u29, hI⟩ := hI
      obtain ⟨u30, hI⟩ := hI
      obtain ⟨u31, hI⟩ := hI
      obtain ⟨u32, hI⟩ := hI
      obtain ⟨u33, hI⟩ := hI
      obtain ⟨u34, hI⟩ := hI
      obtain ⟨u35, hI⟩ := hI
      obtain ⟨u36, hI⟩ := hI
      obtain ⟨u37, hI⟩ := hI
      obtain ⟨u38, hI⟩ := hI
      obtain ⟨u39, hI⟩ := hI
      obtain ⟨u40, hI⟩ := hI
      obtain ⟨u41, hI⟩ := hI
      obtain ⟨u42, hI⟩ := hI
      obtain ⟨u43, hI⟩ := hI
      obtain ⟨u44, hI⟩ := hI
      obtain ⟨u45, hI⟩ := hI
      obtain ⟨u46, hI⟩ := hI
      obtain ⟨u47, hI⟩ := hI
      obtain ⟨u48, hI⟩ := hI
      obtain ⟨u49, hI⟩ := hI
      obtain ⟨u50, hI⟩ := hI
      obtain ⟨u51, hI⟩ := hI
      obtain ⟨u52, hI⟩ := hI
      obtain ⟨u53, hI⟩ := hI
      obtain ⟨u54, hI⟩ := hI
      obtain ⟨u55, hI⟩ := hI
      obtain ⟨u56, hI⟩ := hI
      obtain ⟨u57, hI⟩ := hI
      obtain ⟨u58, hI⟩ := hI
      obtain ⟨u59, hI⟩ := hI
      obtain ⟨u60, hI⟩ := hI
      obtain ⟨u61, hI⟩ := hI
      obtain ⟨u62, hI⟩ := hI
      obtain ⟨u63, hI⟩ := hI
      obtain ⟨u64, hI⟩ := hI
      obtain ⟨u65, hI⟩ := hI
      obtain ⟨u66, hI⟩ := hI
      obtain ⟨u67, hI⟩ := hI
      obtain ⟨u68, hI⟩ := hI
      obtain ⟨u69, hI⟩ := hI
      obtain ⟨u70, hI⟩ := hI
      obtain ⟨u71, hI⟩ := hI
      obtain ⟨u72, hI⟩ := hI
      obtain ⟨u73, hI⟩ := hI
      obtain ⟨u74, hI⟩ := hI
      obtain ⟨u75, hI⟩ := hI
      obtain ⟨u76, hI⟩ := hI
      obtain ⟨u77, hI⟩ := hI
      obtain ⟨u78, hI⟩ := hI
      obtain ⟨u79, hI⟩ := hI
      obtain ⟨u80, hI⟩ := hI
      obtain ⟨u81, hI⟩ := hI
      obtain ⟨u82, hI⟩ := hI
      obtain ⟨u83, hI⟩ := hI
      obtain ⟨u84, hI⟩ := hI
      obtain ⟨u85, hI⟩ := hI
      obtain ⟨u86, hI⟩ := hI
      obtain ⟨u87, hI⟩ := hI
      obtain ⟨u88, hI⟩ := hI
      obtain ⟨u89, hI⟩ := hI
      obtain ⟨u90, hI⟩ := hI
      obtain ⟨u91, hI⟩ := hI
      obtain ⟨u92, hI⟩ := hI
      obtain ⟨u93, hI⟩ := hI
      obtain ⟨u94, hI⟩ := hI
      obtain ⟨u95, hI⟩ := hI
      obtain ⟨u96, hI⟩ := hI
      obtain ⟨u97, hI⟩ := hI
      obtain ⟨u98, hI⟩ := hI
      obtain ⟨u99, hI⟩ := hI
      obtain ⟨u100, hI⟩ := hI
      obtain ⟨u101, hI⟩ := hI
      obtain ⟨u102, hI⟩ := hI
      obtain ⟨u103, hI⟩ := hI
      obtain ⟨u104, hI⟩ := hI
      obtain ⟨u105, hI⟩ := hI
      obtain ⟨u106, hI⟩ := hI
      obtain ⟨u107, hI⟩ := hI
      obtain ⟨u108, hI⟩ := hI
      obtain ⟨u109, hI⟩ := hI
      obtain ⟨u110, hI⟩ := hI
      obtain ⟨u111, hI⟩ := hI
      obtain ⟨u112, hI⟩ := hI
      obtain ⟨u113, hI⟩ := hI
      obtain ⟨u114, hI⟩ := hI
      obtain ⟨u115, hI⟩ := hI
      obtain ⟨u116, hI⟩ := hI
      obtain ⟨u117, hI⟩ := hI
      obtain ⟨u118, hI⟩ := hI
      obtain ⟨u119, hI⟩ := hI
      obtain ⟨u120, hI⟩ := hI
      obtain ⟨u121, hI⟩ := hI
      obtain ⟨u122, hI⟩ := hI
      obtain ⟨u123, hI⟩ := hI
      obtain ⟨u124, hI⟩ := hI
      obtain ⟨u125, hI⟩ := hI
      obtain ⟨u126, hI⟩ := hI
      obtain ⟨u127, hI⟩ := hI
      obtain ⟨u128, hI⟩ := hI
      obtain ⟨u129, hI⟩ := hI
      obtain ⟨u130, hI⟩ := hI
      obtain ⟨u131, hI⟩ := hI
      obtain ⟨u132, hI⟩ := hI
      obtain ⟨u133, hI⟩ := hI
      obtain ⟨u134, hI⟩ := hI
      obtain ⟨u135, hI⟩ := hI
      obtain ⟨u136, hI⟩ := hI
      obtain ⟨u137, hI⟩ := hI
      obtain ⟨u138, hI⟩ := hI
      obtain ⟨u139, hI⟩ := hI
      obtain ⟨u140, hI⟩ := hI
      obtain ⟨u141, hI⟩ := hI
      obtain ⟨u142, hI⟩ := hI
      obtain ⟨u143, hI⟩ := hI
      obtain ⟨u144, hI⟩ := hI
      obtain ⟨u145, hI⟩ := hI
      obtain ⟨u146, hI⟩ := hI
      obtain ⟨u147, hI⟩ := hI
      obtain ⟨u148, hI⟩ := hI
      obtain ⟨u149, hI⟩ := hI
      obtain ⟨u150, hI⟩ := hI
      obtain ⟨u151, hI⟩ := hI
      obtain ⟨u152, hI⟩ := hI
      obtain ⟨u153, hI⟩ := hI
      obtain ⟨u154, hI⟩ := hI
      obtain ⟨u155, hI⟩ := hI
      obtain ⟨u156, hI⟩ := hI
      obtain ⟨u157, hI⟩ := hI
      obtain ⟨u158, hI⟩ := hI
      obtain ⟨u159, hI⟩ := hI
      obtain ⟨u160, hI⟩ := hI
      obtain ⟨u161, hI⟩ := hI
      obtain ⟨u162, hI⟩ := hI
      obtain ⟨u163, hI⟩ := hI
      obtain ⟨u164, hI⟩ := hI
      obtain ⟨u165, hI⟩ := hI
      obtain ⟨u166, hI⟩ := hI
      obtain ⟨u167, hI⟩ := hI
      obtain ⟨u168, hI⟩ := hI
      obtain ⟨u169, hI⟩ := hI
      obtain ⟨u170, hI⟩ := hI
      obtain ⟨u171, hI⟩ := hI
      obtain ⟨u172, hI⟩ := hI
      obtain ⟨u173, hI⟩ := hI
      obtain ⟨u174, hI⟩ := hI
      obtain ⟨u175, hI⟩ := hI
      obtain ⟨u176, hI⟩ := hI
      obtain ⟨u177, hI⟩ := hI
      obtain ⟨u178, hI⟩ := hI
      obtain ⟨u179, hI⟩ := hI
      obtain ⟨u180, hI⟩ := hI
      obtain ⟨u181, hI⟩ := hI
      obtain ⟨u182, hI⟩ := hI
      obtain ⟨u183, hI⟩ := hI
      obtain ⟨u184, hI⟩ := hI
      obtain ⟨u185, hI⟩ := hI
      obtain ⟨u186, hI⟩ := hI
      obtain ⟨u187, hI⟩ := hI
      obtain ⟨u188, hI⟩ := hI
      obtain ⟨u189, hI⟩ := hI
      obtain ⟨u190, hI⟩ := hI
      obtain ⟨u191, hI⟩ := hI
      obtain ⟨u192, hI⟩ := hI
      obtain ⟨u193, hI⟩ := hI
      obtain ⟨u194, hI⟩ := hI
      obtain ⟨u195, hI⟩ := hI
      obtain ⟨u196, hI⟩ := hI
      obtain ⟨u197, hI⟩ := hI
      obtain ⟨u198, hI⟩ := hI
      obtain ⟨u199, hI⟩ := hI
      obtain ⟨u200, hI⟩ := hI
      obtain ⟨u201, hI⟩ := hI
      obtain ⟨hend, rfl⟩ := hI
      unfold ScEnd at hend
      obtain ⟨X, v0, v1, v2, HSC, HG, HBW, HT, HR, HX⟩ := hend
      have HOE := Lib.hid (scan_end hl1 hl2 HSC.out)
      obtain ⟨m, e1, hkm⟩ : ∃ m : Nat, (x.length : Int) - 1 = (m : Int) ∧ x.length = m + 1 := ⟨x.length - 1, by omega, by omega⟩
      have HKM := Lib.hid hkm
      have hwm : IntKind.i64.wrap (m : Int) = (m : Int) := Go.IntWalk.i64_in _ ⟨by omega, by omega⟩
      have hm0 : (0 : Int) ≤ (m : Int) := by omega
      clear hkm
      obtain ⟨f0, d0, rfl, -⟩ := HX.out.r0.cells (by have := HG.out.1.1; omega)
      obtain ⟨A1, k1, rfl⟩ := HX.out.r1.form
      obtain ⟨A2, k2, rfl⟩ := HX.out.r2.form
      have hmf : (m : Int) < (X.f.length : Int) := by have := HG.out.1.1; have := HKM.out; omega
      obtain ⟨fm, HFM⟩ : ∃ fm, Hid (X.f.getD m 0 = fm) := ⟨_, Lib.hid rfl⟩
      have HOE2 : Hid (okS x = (fm == 0)) := Lib.hid (by rw [HOE.out, HKM.out, Nat.add_sub_cancel, HFM.out]; rfl)
      have hcf : wr.cell? ⟨f0, m, none⟩ = some (.int .i64 fm) := by rw [← HFM.out]; exact HX.out.r0.cell (by have := HG.out.1.1; have := HKM.out; omega)
      obtain ⟨hx0, hx1, hx2, -, -, -, hxs⟩ := cells3 HX.out.box
      obtain ⟨hr0, hr1, hr2, hrf0, hrf1, hrf2, hrs⟩ := cells3 HR.out.drew
      obtain ⟨-, hra1, -, -, hraf1, -, -⟩ := cells3 (HR.out.set 0 (.slice (some ⟨f0, 0, none⟩) X.f.length d0)).drew
      obtain ⟨-, -, hrb2, -, -, hrbf2, -⟩ := cells3 ((HR.out.set 0 (.slice (some ⟨f0, 0, none⟩) X.f.length d0)).set 1 (.slice A1 X.i.length k1)).drew
      have ht0 : wr.cell? ⟨w.heap.size, 0, none⟩ = some (.slice A x.length c) := HT.out.cell (i := 0) (by simp)
      have hfb : w.heap.size + 3 ≤ f0 := (World.ownsRow.lt HX.out.r0 f0 rfl).1
      have HELD : Hid (∀ w' : World, KB (w.heap.size + 2) w.heap.size f0 wr w' → w'.cell? ⟨w.heap.size + 2, 0, none⟩ = some (.slice (some ⟨f0, 0, none⟩) X.f.length d0) ∧ w'.cell? ⟨w.heap.size + 2, 1, none⟩ = some (.slice A1 X.i.length k1) ∧ w'.cell? ⟨w.heap.size + 2, 2, none⟩ = some (.slice A2 X.o.length k2) ∧ w'.cell? ⟨w.heap.size, 0, none⟩ = some (.slice A x.length c) ∧ w'.cell? ⟨f0, m, none⟩ = some (.int .i64 fm)) := Lib.hid (fun w' H => ⟨(World.cell?_of_block (w := wr) H.1).trans hx0, (World.cell?_of_block (w := wr) H.1).trans hx1, (World.cell?_of_block (w := wr) H.1).trans hx2, (World.cell?_of_block (w := wr) H.2.1).trans ht0, (World.cell?_of_block (w := wr) H.2.2).trans hcf⟩)
      have HQ0 : Hid (KB (w.heap.size + 2) w.heap.size f0 wr wr.drew) := Lib.hid ⟨rfl, rfl, rfl⟩
      clear hx0 hx1 hx2 ht0 hcf
      go_wp2
      go_region_held3 (fun w' => w'.cell? ⟨w.heap.size + 2, 0, none⟩ = some (.slice (some ⟨f0, 0, none⟩) X.f.length d0) ∧ w'.cell? ⟨w.heap.size + 2, 1, none⟩ = some (.slice A1 X.i.length k1) ∧ w'.cell? ⟨w.heap.size + 2, 2, none⟩ = some (.slice A2 X.o.length k2) ∧ w'.cell? ⟨w.heap.size, 0, none⟩ = some (.slice A x.length c) ∧ w'.cell? ⟨f0, m, none⟩ = some (.int .i64 fm))
        (first | exact HELD.out _ (HQ0.out) | exact HELD.out _ (KB.set (HQ0.out) (by omega) (by omega) (by omega)) | exact HELD.out _ (KB.set (KB.set (HQ0.out) (by omega) (by omega) (by omega)) (by omega) (by omega) (by omega)) | exact HELD.out _ (KB.set (KB.set (KB.set (HQ0.out) (by omega) (by omega) (by omega)) (by omega) (by omega) (by omega)) (by omega) (by omega) (by omega)) | fail)
        (fail)
      go_wp2
      obtain ⟨hq0, hq1, hq2, -, -, -, -⟩ := cells3 (((HR.out.set 0 (.slice (some ⟨f0, 0, none⟩) X.f.length d0)).set 1 (.slice A1 X.i.length k1)).set 2 (.slice A2 X.o.length k2)).drew
      refine bodyPost_ret (v := .tuple #[.agg #[.slice (some ⟨f0, 0, none⟩) X.f.length d0, .slice A1 X.i.length k1, .slice A2 X.o.length k2], .bool (fm == 0)]) (by simp [results, Try.results94, go_sem, hq0, hq1, hq2]) rfl ?_
      refine ⟨_, _, _, by rw [HOE2.out], ?_, fun _ => ⟨X, HSC.out, HG.out, ?_, ?_, ?_⟩, ⟨_, _, _, rfl⟩, ⟨_, _, _, rfl⟩, ⟨_, _, _, rfl⟩⟩
      · refine Below.trans HBW.out ?_
        repeat' (first | exact Below.refl _ _ | apply Below.drew | apply Below.setCell | apply Below.alloc | (simp; done) | omega | (simp; omega))
      · exact RowA.mono (((HX.out.drew.r0.set (b := w.heap.size + 1) (by omega)).set (b := w.heap.size + 1) (by omega)).set (b := w.heap.size + 1) (by omega)) (by omega)
      · exact RowA.mono (((HX.out.drew.r1.set (b := w.heap.size + 1) (by omega)).set (b := w.heap.size + 1) (by omega)).set (b := w.heap.size + 1) (by omega)) (by omega)
      · exact RowA.mono (((HX.out.drew.r2.set (b := w.heap.size + 1) (by omega)).set (b := w.heap.size + 1) (by omega)).set (b := w.heap.size + 1) (by omega)) (by omega)
    · exact ⟨0, .nil, .slice none 0 0, .slice none 0 0, .slice none 0 0, Nat.zero_le _, rfl, Lib.hid rfl, Lib.hid Sc.good_nil, Lib.hid (by repeat' (first | exact Below.refl _ _ | apply Below.drew | apply Below.setCell | apply Below.alloc | (simp; done) | omega | (simp; omega))), Lib.hid (((cellsAt_new' _ _ _ [.slice A x.length c] _ rfl rfl).alloc _).alloc _), Lib.hid ((cellsAt_new' _ _ _ [.slice none 0 0, .slice none 0 0, .slice none 0 0] _ (by simp) rfl).alloc _), Lib.hid ⟨cellsAt_new' _ _ _ [.slice none 0 0, .slice none 0 0, .slice none 0 0] _ (by simp) rfl, World.ownsRow_nil _ _ _ _, World.ownsRow_nil _ _ _ _, World.ownsRow_nil _ _ _ _, Or.inl rfl, Or.inl rfl, Or.inl rfl, by omega⟩⟩
  · have HOK : Hid (okS x = false) := Lib.hid (by
      unfold okS
      by_cases h1 : 1 ≤ x.length
      · rw [decide_eq_false (p := x.length ≤ 400) (by omega)]; simp
      · rw [decide_eq_false h1]; simp)
    have hlI : (x.length : Int) < 1 ∨ 400 < (x.length : Int) := by omega
    clear hl
    go_enter Try.func94, Try.ntmps94
    go_wp2_with (go_at_call 43; refine (l1In_f _ _ _ _ (by omega)).mono ?_; rintro e w' ⟨rfl, rfl⟩)
    refine bodyPost_ret (v := .tuple #[.agg #[.slice none 0 0, .slice none 0 0, .slice none 0 0], .bool false]) (by simp [results, Try.results94, go_sem]) rfl ?_
    refine ⟨_, _, _, by rw [HOK.out], ?_, fun h => absurd (HOK.out.symm.trans h) (by simp), ⟨_, _, _, rfl⟩, ⟨_, _, _, rfl⟩, ⟨_, _, _, rfl⟩⟩
    repeat' (first | exact Below.refl _ _ | apply Below.drew | apply Below.setCell | apply Below.alloc | (simp; done) | omega | (simp; omega))
end Go.Proofs.Ytiealgnmhjebeaa

/-! The model's type of a term. -/
namespace Go.Proofs.Ytiealgnmhjebeaa
open Go Go.RowKit Go.Deep

set_option maxHeartbeats 1600000 in
theorem tmScan_any (w : World) (B : Nat) (v : Value) (x : List Nd) (hv : LfN w B v x) (hB : B ≤ w.heap.size) :
    Calls Try.prog 64 #[.agg #[v]] w (ScanSaid w x) := by
  have HB0 := Lib.hid (Below.alloc (Below.alloc (Below.refl w.heap.size w) (Nat.le_refl _) (.cells #[v] tTm)) (by simp) (.cells #[.slice none 0 0, .slice none 0 0, .slice none 0 0] tInfo))
  have HSC := Lib.hid (lbScan_any ((w.alloc (.cells #[v] tTm)).alloc (.cells #[.slice none 0 0, .slice none 0 0, .slice none 0 0] tInfo)) B v x (hv.below HB0.out hB) (by simp; omega))
  have HR0 := Lib.hid (cellsAt_new' (w.alloc (.cells #[v] tTm)) #[.slice none 0 0, .slice none 0 0, .slice none 0 0] tInfo [.slice none 0 0, .slice none 0 0, .slice none 0 0] (w.heap.size + 1) (by simp) rfl)
  have hsz0 : ((w.alloc (.cells #[v] tTm)).alloc (.cells #[.slice none 0 0, .slice none 0 0, .slice none 0 0] tInfo)).heap.size = w.heap.size + 2 := by simp
  obtain ⟨A, c, rfl⟩ := hv.len
  clear hv hB
  go_enter Try.func64, Try.ntmps64
  go_wp2_with fail
  refine HSC.out.mono ?_
  rintro e w2 ⟨v0, v1, v2, rfl, b2, hx, ⟨A0, n0, c0, rfl⟩, ⟨A1, n1, c1, rfl⟩, ⟨A2, n2, c2, rfl⟩⟩
  have HX := Lib.hid hx
  have HB2 := Lib.hid (HB0.out.trans (b2.mono (by rw [hsz0]; omega)))
  have HR2 := Lib.hid (HR0.out.below b2 (by rw [hsz0]; omega))
  obtain ⟨hr0, hr1, hr2, hrf0, hrf1, hrf2, hrs⟩ := cells3 HR2.out
  obtain ⟨-, hra1, -, -, hraf1, -, -⟩ := cells3 (HR2.out.set 0 (.slice A0 n0 c0))
  obtain ⟨-, -, hrb2, -, -, hrbf2, -⟩ := cells3 ((HR2.out.set 0 (.slice A0 n0 c0)).set 1 (.slice A1 n1 c1))
  have hsz2 : w.heap.size + 2 ≤ w2.heap.size := by rw [← hsz0]; exact b2.size
  clear b2 hx
  go_wp2
  obtain ⟨hq0, hq1, hq2, -, -, -, -⟩ := cells3 (((HR2.out.set 0 (.slice A0 n0 c0)).set 1 (.slice A1 n1 c1)).set 2 (.slice A2 n2 c2))
  refine bodyPost_ret (v := .tuple #[.agg #[.slice A0 n0 c0, .slice A1 n1 c1, .slice A2 n2 c2], .bool (okS x)]) (by simp [results, Try.results64, go_sem, hq0, hq1, hq2]) rfl ?_
  refine ⟨_, _, _, rfl, by refine Below.trans HB2.out ?_; exact (by repeat' (first | exact Below.refl _ _ | apply Below.drew | apply below_drewN | apply Below.setCell | apply Below.alloc | (simp; done) | omega | (simp; omega))), fun ho => ?_, ⟨_, _, _, rfl⟩, ⟨_, _, _, rfl⟩, ⟨_, _, _, rfl⟩⟩
  obtain ⟨X, h1, h2, h3, h4, h5⟩ := HX.out ho
  rw [hsz0] at h3 h4 h5
  exact ⟨X, h1, h2, RowA.mono (((h3.set (by omega)).set (by omega)).set (by omega)) (by omega), RowA.mono (((h4.set (by omega)).set (by omega)).set (by omega)) (by omega), RowA.mono (((h5.set (by omega)).set (by omega)).set (by omega)) (by omega)⟩
end Go.Proofs.Ytiealgnmhjebeaa
