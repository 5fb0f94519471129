/- The model's scan of a term: a round's case. -/
import Derived.Test.YtiealgnmhjebeaaTmS0
import Derived.Deep.CutRange
namespace Go.Proofs.Ytiealgnmhjebeaa
set_option maxRecDepth 100000
open Go Go.RowKit Go.Deep

set_option maxRecDepth 1000000 in
set_option maxHeartbeats 6400000 in
theorem scan_L (w wr : World) (B : Nat) (A : Option Addr) (c : Nat) (x : List Nd) (HV : Hid (RdN w (fun b => b < B) (.slice A x.length c) x)) (HB : Hid (B ≤ w.heap.size)) (hxl : x.length ≤ 9223372036854775807) (hl1 : 1 ≤ x.length) (hl2 : x.length ≤ 400)
    (k : Nat) (X : Sc) (v0 v1 v2 : Value) (_hk : k ≤ x.length) (HSC : Hid (scanS .nil 0 (x.take k) = some X)) (HG : Hid (X.Good k)) (HBW : Hid (Below w.heap.size w wr)) (HT : Hid (CellsAt wr w.heap.size tTm [.slice A x.length c])) (HR : Hid (CellsAt wr (w.heap.size + 1) tInfo [.slice none 0 0, .slice none 0 0, .slice none 0 0])) (HX : Hid (Box3 wr (w.heap.size + 2) (w.heap.size + 3) v0 v1 v2 X.f X.i X.o))
    (hlt : k < x.length) (hsel : isLeafB (x.getD k nd0) = true) (K : Act → World → Prop) (c1 c2 c16 c17 c18 c19 c20 c21 c22 c202 c203 c204 c205 c206 c207 c208 c209 c210 c211 : Value) (u5 u7 u8 u9 u10 u11 u12 u13 u14 u15 u26 u27 u28 u29 u30 u31 u32 u33 u34 u35 u36 u37 u38 u39 u40 u41 u42 u43 u44 u45 u46 u47 u48 u49 u50 u51 u52 u53 u54 u55 u56 u57 u58 u59 u60 u61 u62 u63 u64 u65 u66 u67 u68 u69 u70 u71 u72 u73 u74 u75 u76 u77 u78 u79 u80 u81 u82 u83 u84 u85 u86 u87 u88 u89 u90 u91 u92 u93 u94 u95 u96 u97 u98 u99 u100 u101 u102 u103 u104 u105 u106 u107 u108 u109 u110 u111 u112 u113 u114 u115 u116 u117 u118 u119 u120 u121 u122 u123 u124 u125 u126 u127 u128 u129 u130 u131 u132 u133 u134 u135 u136 u137 u138 u139 u140 u141 u142 u143 u144 u145 u146 u147 u148 u149 u150 u151 u152 u153 u154 u155 u156 u157 u158 u159 u160 u161 u162 u163 u164 u165 u166 u167 u168 u169 u170 u171 u172 u173 u174 u175 u176 u177 u178 u179 u180 u181 u182 u183 u184 u185 u186 u187 u188 u189 u190 u191 u192 u193 u194 u195 u196 u197 u198 u199 u200 u201 : Value) :
    Code.wp Try.prog scanBody (Exit.then (fun a' w'' => WI w A c x c1 c2 c16 c17 c18 c19 c20 c21 c22 c202 c203 c204 c205 c206 c207 c208 c209 c210 c211 a' w'' ∧ Wmu x a' < Wmu x ⟨#[.slice none 0 0, c1, c2, .pointer (some ⟨w.heap.size, 0, none⟩), .pointer (some ⟨w.heap.size + 1, 0, none⟩), u5, .pointer (some ⟨w.heap.size + 2, 0, none⟩), u7, u8, u9, u10, u11, u12, u13, u14, u15, c16, c17, c18, c19, c20, c21, c22, .slice A x.length c, .int .i64 x.length, (.int .i64 k), u26, u27, u28, u29, u30, u31, u32, u33, u34, u35, u36, u37, u38, u39, u40, u41, u42, u43, u44, u45, u46, u47, u48, u49, u50, u51, u52, u53, u54, u55, u56, u57, u58, u59, u60, u61, u62, u63, u64, u65, u66, u67, u68, u69, u70, u71, u72, u73, u74, u75, u76, u77, u78, u79, u80, u81, u82, u83, u84, u85, u86, u87, u88, u89, u90, u91, u92, u93, u94, u95, u96, u97, u98, u99, u100, u101, u102, u103, u104, u105, u106, u107, u108, u109, u110, u111, u112, u113, u114, u115, u116, u117, u118, u119, u120, u121, u122, u123, u124, u125, u126, u127, u128, u129, u130, u131, u132, u133, u134, u135, u136, u137, u138, u139, u140, u141, u142, u143, u144, u145, u146, u147, u148, u149, u150, u151, u152, u153, u154, u155, u156, u157, u158, u159, u160, u161, u162, u163, u164, u165, u166, u167, u168, u169, u170, u171, u172, u173, u174, u175, u176, u177, u178, u179, u180, u181, u182, u183, u184, u185, u186, u187, u188, u189, u190, u191, u192, u193, u194, u195, u196, u197, u198, u199, u200, u201, c202, c203, c204, c205, c206, c207, c208, c209, c210, c211], []⟩) (Exit.then K (bodyPost Try.prog Try.f94 (ScanSaid w x)))) ⟨#[.slice none 0 0, c1, c2, .pointer (some ⟨w.heap.size, 0, none⟩), .pointer (some ⟨w.heap.size + 1, 0, none⟩), u5, .pointer (some ⟨w.heap.size + 2, 0, none⟩), u7, u8, u9, u10, u11, u12, u13, u14, u15, c16, c17, c18, c19, c20, c21, c22, .slice A x.length c, .int .i64 x.length, (.int .i64 k), u26, u27, u28, u29, u30, u31, u32, u33, u34, u35, u36, u37, u38, u39, u40, u41, u42, u43, u44, u45, u46, u47, u48, u49, u50, u51, u52, u53, u54, u55, u56, u57, u58, u59, u60, u61, u62, u63, u64, u65, u66, u67, u68, u69, u70, u71, u72, u73, u74, u75, u76, u77, u78, u79, u80, u81, u82, u83, u84, u85, u86, u87, u88, u89, u90, u91, u92, u93, u94, u95, u96, u97, u98, u99, u100, u101, u102, u103, u104, u105, u106, u107, u108, u109, u110, u111, u112, u113, u114, u115, u116, u117, u118, u119, u120, u121, u122, u123, u124, u125, u126, u127, u128, u129, u130, u131, u132, u133, u134, u135, u136, u137, u138, u139, u140, u141, u142, u143, u144, u145, u146, u147, u148, u149, u150, u151, u152, u153, u154, u155, u156, u157, u158, u159, u160, u161, u162, u163, u164, u165, u166, u167, u168, u169, u170, u171, u172, u173, u174, u175, u176, u177, u178, u179, u180, u181, u182, u183, u184, u185, u186, u187, u188, u189, u190, u191, u192, u193, u194, u195, u196, u197, u198, u199, u200, u201, c202, c203, c204, c205, c206, c207, c208, c209, c210, c211], []⟩ wr := by
  conv => arg 2; whnf
  have hsz : w.heap.size + 3 ≤ wr.heap.size := by have := HX.out.lt; have := HX.out.box.lt; omega
  have hbw := HBW.out
  have HNX := Lib.hid (scan_next hlt HSC.out)
  have HBAD := Lib.hid (scan_bad hlt HSC.out)
  obtain ⟨b, o, rfl, hb, hc0, hc1, hc2⟩ := (HV.out.below hbw HB.out).at hlt
  generalize x.getD k nd0 = nd at hc0 hc1 hc2 HNX HBAD hsel
  have HSEL := Lib.hid hsel
  clear hsel
  have hkI : (k : Int) < (x.length : Int) := by omega
  clear hbw
  go_wp2_with fail
  refine (tmLeaf_any _ nd).mono ?_
  rintro e w2 ⟨rfl, b2⟩
  have HB3 : Hid (Below wr.heap.size wr w2) := Lib.hid (by refine Below.trans ?_ (b2.mono (by simp)); repeat' (first | exact Below.refl _ _ | apply Below.drew | apply Below.setCell | apply Below.alloc | (simp; done) | omega | (simp; omega)))
  have HN : Hid (CellsAt w2 wr.heap.size tNd [.int .i64 nd.k, .int .i64 nd.v, .string nd.s]) := Lib.hid (CellsAt.below (cellsAt_new' _ _ _ [.int .i64 nd.k, .int .i64 nd.v, .string nd.s] _ rfl rfl) b2 (by simp))
  have HX2 := Lib.hid (HX.out.below HB3.out)
  have HT2 := Lib.hid (HT.out.below HB3.out (by omega))
  have HR2 := Lib.hid (HR.out.below HB3.out (by omega))
  have HBW2 := Lib.hid (HBW.out.trans (HB3.out.mono HBW.out.size))
  have hsz2 : wr.heap.size ≤ w2.heap.size := HB3.out.size
  clear b2 hc0 hc1 hc2 HX HT HR HBW HB3
  have HN2 := HN
  clear HN
  obtain ⟨hn0, hn1, hn2, -, -, -, hns⟩ := cells3 HN2.out
  have HLF := Lib.hid HG.out.1
  obtain ⟨hx0, hx1, hx2, hf0, hf1, hf2, hxs⟩ := cells3 HX2.out.box
  have hleaf := HSEL.out
  have HST := Lib.hid (stepS_leaf (X := X) (k := k) hleaf)
  have hbd := leafW_bd hleaf
  have hk14 : 1 ≤ nd.k ∧ nd.k ≤ 14 := by unfold isLeafB at hleaf; simp at hleaf; omega
  obtain ⟨hk1, hk14⟩ := hk14
  rw [hleaf]
  clear hleaf HBAD
  go_wp2_with fail
  refine (tmArity_any _ nd).mono ?_
  rintro e w3 ⟨rfl, b3⟩
  unfold pairV
  have hgr3 := grown_of_below b3
  have HX3 := Lib.hid (HX2.out.grown hgr3)
  have HT3 := Lib.hid (HT2.out.of_block (hgr3.block _ HT2.out.lt (by simp)))
  have HR3 := Lib.hid (HR2.out.of_block (hgr3.block _ HR2.out.lt (by simp)))
  have HBW3 := Lib.hid (HBW2.out.trans (show Below w.heap.size w2 w3 from ⟨hgr3.os, hgr3.tape, hgr3.output, hgr3.size, fun q hq => hgr3.block q (Nat.lt_of_lt_of_le hq HBW2.out.size) (by simp)⟩))
  have HN3 := Lib.hid (HN2.out.of_block (hgr3.block _ HN2.out.lt (by simp)))
  have hsz3 : w2.heap.size ≤ w3.heap.size := hgr3.size
  clear b3 hgr3

  clear hn0 hn1 hn2 HX2 HT2 HR2 HBW2 HN2 hx0 hx1 hx2 hf0 hf1 hf2 hxs
  obtain ⟨hn0, hn1, hn2, -, -, -, hns3⟩ := cells3 HN3.out
  obtain ⟨hx0, hx1, hx2, hf0, hf1, hf2, hxs⟩ := cells3 HX3.out.box
  have HBD := Lib.hid hbd
  clear hbd
  generalize (leafW nd).1 = li at HST HBD
  generalize (leafW nd).2 = lo at HST HBD
  go_wp2_with (at_builtin; refine wpList_pushI rfl _ _ rfl _ (w.heap.size + 3) _ X.f ((k : Int)) w3.heap.size 1 rfl (HX3.out.alloc _).r0 rfl (cellI_new _ _ _ _ rfl) (by simp; omega) (by have := HLF.out.1; have := HLF.out.2.1; have := HLF.out.2.2; omega) ?_)
  intro g0 c0 wa ho4 hga4 ha4
  have HXa := Lib.hid ((HX3.out.alloc _).keep (HX3.out.alloc _).r0 hga4)
  have HXA := Lib.hid ((HX3.out.alloc _).push0 ho4 hga4 (ha4.imp id fun e => by simpa using e))
  have HKA := Lib.hid (Touch.trans (Touch.alloc (Touch.refl (fun q => q = w.heap.size + 2 ∨ w.heap.size + 3 ≤ q) w3) _) (kp_push (b := w.heap.size + 2) (j := 0) (fun q e => (World.ownsRow.lt HX3.out.r0 q e).1) hga4 (.slice (some ⟨g0, 0, none⟩) (X.f.length + 1) c0)))
  have hsa : w3.heap.size ≤ wa.heap.size := Nat.le_trans (by simp) hga4.size
  clear ho4 hga4 ha4 hx0 hx1 hx2 hf0 hf1 hf2 hxs
  obtain ⟨hx0, hx1, hx2, hf0, hf1, hf2, hxs⟩ := cells3 HXa.out
  go_wp2_with (at_builtin; refine wpList_pushI rfl _ _ rfl _ (w.heap.size + 3) _ X.i (li) _ 1 rfl (HXA.out.alloc _).r1 rfl (cellI_new _ _ _ _ (by simp)) (by simp; omega) (by have := HLF.out.1; have := HLF.out.2.1; have := HLF.out.2.2; omega) ?_)
  intro g1 c1 wb ho5 hga5 ha5
  have HXb := Lib.hid ((HXA.out.alloc _).keep (HXA.out.alloc _).r1 hga5)
  have HXB := Lib.hid ((HXA.out.alloc _).push1 ho5 hga5 (ha5.imp id fun e => by simpa using e))
  have HKB := Lib.hid (Touch.trans (Touch.alloc HKA.out _) (kp_push (b := w.heap.size + 2) (j := 1) (fun q e => (World.ownsRow.lt HXA.out.r1 q e).1) hga5 (.slice (some ⟨g1, 0, none⟩) (X.i.length + 1) c1)))
  have hsb : wa.heap.size ≤ wb.heap.size := Nat.le_trans (by simp) hga5.size
  clear ho5 hga5 ha5 hx0 hx1 hx2 hf0 hf1 hf2 hxs HXa HXA HKA
  obtain ⟨hx0, hx1, hx2, hf0, hf1, hf2, hxs⟩ := cells3 HXb.out
  go_wp2_with (at_builtin; refine wpList_pushI rfl _ _ rfl _ (w.heap.size + 3) _ X.o (lo) _ 1 rfl (HXB.out.alloc _).r2 rfl (cellI_new _ _ _ _ (by simp)) (by simp; omega) (by have := HLF.out.1; have := HLF.out.2.1; have := HLF.out.2.2; omega) ?_)
  intro g2 c2 wc ho6 hga6 ha6
  have HXc := Lib.hid ((HXB.out.alloc _).keep (HXB.out.alloc _).r2 hga6)
  have HXC := Lib.hid ((HXB.out.alloc _).push2 ho6 hga6 (ha6.imp id fun e => by simpa using e))
  have HKC := Lib.hid (Touch.trans (Touch.alloc HKB.out _) (kp_push (b := w.heap.size + 2) (j := 2) (fun q e => (World.ownsRow.lt HXB.out.r2 q e).1) hga6 (.slice (some ⟨g2, 0, none⟩) (X.o.length + 1) c2)))
  clear ho6 hga6 ha6 hx0 hx1 hx2 hf0 hf1 hf2 hxs HXb HXB HKB
  obtain ⟨hx0, hx1, hx2, hf0, hf1, hf2, hxs⟩ := cells3 HXc.out
  go_wp2
  refine ⟨?_, by simp [Wmu, intOf]; omega⟩
  unfold WI
  refine ⟨_, _, _, _, _, _, _, _, _, _, _, _, _, _, _, _, _, _, _, _, _, _, _, _, _, _, _, _, _, _, _, _, _, _, _, _, _, _, _, _, _, _, _, _, _, _, _, _, _, _, _, _, _, _, _, _, _, _, _, _, _, _, _, _, _, _, _, _, _, _, _, _, _, _, _, _, _, _, _, _, _, _, _, _, _, _, _, _, _, _, _, _, _, _, _, _, _, _, _, _, _, _, _, _, _, _, _, _, _, _, _, _, _, _, _, _, _, _, _, _, _, _, _, _, _, _, _, _, _, _, _, _, _, _, _, _, _, _, _, _, _, _, _, _, _, _, _, _, _, _, _, _, _, _, _, _, _, _, _, _, _, _, _, _, _, _, _, _, _, _, _, _, _, _, _, _, _, _, _, _, _, _, _, _, _, _, _, ?_, rfl⟩
  unfold ScRel
  have hb9 := Kp.below HKC.out (H := w.heap.size) (by omega) (by omega) (by omega)
  exact ⟨k + 1, X.push ((k : Int)) (li) (lo), _, _, _, by omega, by go_num, Lib.hid (HNX.out.trans HST.out), Lib.hid (HG.out.push ⟨by omega, by omega⟩ ⟨HBD.out.1, HBD.out.2.1⟩ ⟨HBD.out.2.2.1, HBD.out.2.2.2⟩), Lib.hid (HBW3.out.trans hb9), Lib.hid (Kp.at HKC.out HT3.out (by omega) (by omega)), Lib.hid (Kp.at HKC.out HR3.out (by omega) (by omega)), HXC⟩
end Go.Proofs.Ytiealgnmhjebeaa
