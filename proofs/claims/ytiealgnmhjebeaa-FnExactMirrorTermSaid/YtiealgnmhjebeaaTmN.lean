/- The model's scan of a term: a round's case. -/
import Derived.Test.YtiealgnmhjebeaaTmS0
import Derived.Deep.CutRange
namespace Go.Proofs.Ytiealgnmhjebeaa
set_option maxRecDepth 100000
open Go Go.RowKit Go.Deep

set_option maxRecDepth 1000000 in
set_option maxHeartbeats 6400000 in
theorem scan_N (w wr : World) (B : Nat) (A : Option Addr) (c : Nat) (x : List Nd) (HV : Hid (RdN w (fun b => b < B) (.slice A x.length c) x)) (HB : Hid (B ≤ w.heap.size)) (_hxl : x.length ≤ 9223372036854775807) (_hl1 : 1 ≤ x.length) (_hl2 : x.length ≤ 400)
    (k : Nat) (X : Sc) (v0 v1 v2 : Value) (_hk : k ≤ x.length) (HSC : Hid (scanS .nil 0 (x.take k) = some X)) (HG : Hid (X.Good k)) (HBW : Hid (Below w.heap.size w wr)) (HT : Hid (CellsAt wr w.heap.size tTm [.slice A x.length c])) (HR : Hid (CellsAt wr (w.heap.size + 1) tInfo [.slice none 0 0, .slice none 0 0, .slice none 0 0])) (HX : Hid (Box3 wr (w.heap.size + 2) (w.heap.size + 3) v0 v1 v2 X.f X.i X.o))
    (hlt : k < x.length) (hsel : isLeafB (x.getD k nd0) = false ∧ isJointB (x.getD k nd0) = false) (K : Act → World → Prop) (c1 c2 c16 c17 c18 c19 c20 c21 c22 c202 c203 c204 c205 c206 c207 c208 c209 c210 c211 : Value) (u5 u7 u8 u9 u10 u11 u12 u13 u14 u15 u26 u27 u28 u29 u30 u31 u32 u33 u34 u35 u36 u37 u38 u39 u40 u41 u42 u43 u44 u45 u46 u47 u48 u49 u50 u51 u52 u53 u54 u55 u56 u57 u58 u59 u60 u61 u62 u63 u64 u65 u66 u67 u68 u69 u70 u71 u72 u73 u74 u75 u76 u77 u78 u79 u80 u81 u82 u83 u84 u85 u86 u87 u88 u89 u90 u91 u92 u93 u94 u95 u96 u97 u98 u99 u100 u101 u102 u103 u104 u105 u106 u107 u108 u109 u110 u111 u112 u113 u114 u115 u116 u117 u118 u119 u120 u121 u122 u123 u124 u125 u126 u127 u128 u129 u130 u131 u132 u133 u134 u135 u136 u137 u138 u139 u140 u141 u142 u143 u144 u145 u146 u147 u148 u149 u150 u151 u152 u153 u154 u155 u156 u157 u158 u159 u160 u161 u162 u163 u164 u165 u166 u167 u168 u169 u170 u171 u172 u173 u174 u175 u176 u177 u178 u179 u180 u181 u182 u183 u184 u185 u186 u187 u188 u189 u190 u191 u192 u193 u194 u195 u196 u197 u198 u199 u200 u201 : Value) :
    Code.wp Try.prog scanBody (Exit.then (fun a' w'' => WI w A c x c1 c2 c16 c17 c18 c19 c20 c21 c22 c202 c203 c204 c205 c206 c207 c208 c209 c210 c211 a' w'' ∧ Wmu x a' < Wmu x ⟨#[.slice none 0 0, c1, c2, .pointer (some ⟨w.heap.size, 0, none⟩), .pointer (some ⟨w.heap.size + 1, 0, none⟩), u5, .pointer (some ⟨w.heap.size + 2, 0, none⟩), u7, u8, u9, u10, u11, u12, u13, u14, u15, c16, c17, c18, c19, c20, c21, c22, .slice A x.length c, .int .i64 x.length, (.int .i64 k), u26, u27, u28, u29, u30, u31, u32, u33, u34, u35, u36, u37, u38, u39, u40, u41, u42, u43, u44, u45, u46, u47, u48, u49, u50, u51, u52, u53, u54, u55, u56, u57, u58, u59, u60, u61, u62, u63, u64, u65, u66, u67, u68, u69, u70, u71, u72, u73, u74, u75, u76, u77, u78, u79, u80, u81, u82, u83, u84, u85, u86, u87, u88, u89, u90, u91, u92, u93, u94, u95, u96, u97, u98, u99, u100, u101, u102, u103, u104, u105, u106, u107, u108, u109, u110, u111, u112, u113, u114, u115, u116, u117, u118, u119, u120, u121, u122, u123, u124, u125, u126, u127, u128, u129, u130, u131, u132, u133, u134, u135, u136, u137, u138, u139, u140, u141, u142, u143, u144, u145, u146, u147, u148, u149, u150, u151, u152, u153, u154, u155, u156, u157, u158, u159, u160, u161, u162, u163, u164, u165, u166, u167, u168, u169, u170, u171, u172, u173, u174, u175, u176, u177, u178, u179, u180, u181, u182, u183, u184, u185, u186, u187, u188, u189, u190, u191, u192, u193, u194, u195, u196, u197, u198, u199, u200, u201, c202, c203, c204, c205, c206, c207, c208, c209, c210, c211], []⟩) (Exit.then K (bodyPost Try.prog Try.f94 (ScanSaid w x)))) ⟨#[.slice none 0 0, c1, c2, .pointer (some ⟨w.heap.size, 0, none⟩), .pointer (some ⟨w.heap.size + 1, 0, none⟩), u5, .pointer (some ⟨w.heap.size + 2, 0, none⟩), u7, u8, u9, u10, u11, u12, u13, u14, u15, c16, c17, c18, c19, c20, c21, c22, .slice A x.length c, .int .i64 x.length, (.int .i64 k), u26, u27, u28, u29, u30, u31, u32, u33, u34, u35, u36, u37, u38, u39, u40, u41, u42, u43, u44, u45, u46, u47, u48, u49, u50, u51, u52, u53, u54, u55, u56, u57, u58, u59, u60, u61, u62, u63, u64, u65, u66, u67, u68, u69, u70, u71, u72, u73, u74, u75, u76, u77, u78, u79, u80, u81, u82, u83, u84, u85, u86, u87, u88, u89, u90, u91, u92, u93, u94, u95, u96, u97, u98, u99, u100, u101, u102, u103, u104, u105, u106, u107, u108, u109, u110, u111, u112, u113, u114, u115, u116, u117, u118, u119, u120, u121, u122, u123, u124, u125, u126, u127, u128, u129, u130, u131, u132, u133, u134, u135, u136, u137, u138, u139, u140, u141, u142, u143, u144, u145, u146, u147, u148, u149, u150, u151, u152, u153, u154, u155, u156, u157, u158, u159, u160, u161, u162, u163, u164, u165, u166, u167, u168, u169, u170, u171, u172, u173, u174, u175, u176, u177, u178, u179, u180, u181, u182, u183, u184, u185, u186, u187, u188, u189, u190, u191, u192, u193, u194, u195, u196, u197, u198, u199, u200, u201, c202, c203, c204, c205, c206, c207, c208, c209, c210, c211], []⟩ wr := by
  conv => arg 2; whnf
  have hsz : w.heap.size + 3 ≤ wr.heap.size := by have := HX.out.lt; have := HX.out.box.lt; omega
  have hbw := HBW.out
  have HNX := Lib.hid (scan_next hlt HSC.out)
  have HBAD := Lib.hid (scan_bad hlt HSC.out)
  obtain ⟨b, o, rfl, hb, hc0, hc1, hc2⟩ := (HV.out.below hbw HB.out).at hlt
  generalize x.getD k nd0 = nd at hc0 hc1 hc2 HNX HBAD hsel
  have HSEL := Lib.hid hsel
  clear hsel
  have hkI : (k : Int) < (x.length : Int) := by omega
  clear hbw
  go_wp2_with fail
  refine (tmLeaf_any _ nd).mono ?_
  rintro e w2 ⟨rfl, b2⟩
  have HB3 : Hid (Below wr.heap.size wr w2) := Lib.hid (by refine Below.trans ?_ (b2.mono (by simp)); repeat' (first | exact Below.refl _ _ | apply Below.drew | apply Below.setCell | apply Below.alloc | (simp; done) | omega | (simp; omega)))
  have HN : Hid (CellsAt w2 wr.heap.size tNd [.int .i64 nd.k, .int .i64 nd.v, .string nd.s]) := Lib.hid (CellsAt.below (cellsAt_new' _ _ _ [.int .i64 nd.k, .int .i64 nd.v, .string nd.s] _ rfl rfl) b2 (by simp))
  have HX2 := Lib.hid (HX.out.below HB3.out)
  have HT2 := Lib.hid (HT.out.below HB3.out (by omega))
  have HR2 := Lib.hid (HR.out.below HB3.out (by omega))
  have HBW2 := Lib.hid (HBW.out.trans (HB3.out.mono HBW.out.size))
  have hsz2 : wr.heap.size ≤ w2.heap.size := HB3.out.size
  clear b2 hc0 hc1 hc2 HX HT HR HBW HB3
  have HN2 := HN
  clear HN
  obtain ⟨hn0, hn1, hn2, -, -, -, hns⟩ := cells3 HN2.out
  have HLF := Lib.hid HG.out.1
  obtain ⟨hx0, hx1, hx2, hf0, hf1, hf2, hxs⟩ := cells3 HX2.out.box
  obtain ⟨hlf0, hj0⟩ := HSEL.out
  rw [hlf0]
  have hj : ¬ isJointB nd = true := by rw [hj0]; simp
  clear hj0
  by_cases k17 : nd.k = 17
  · have HOK := Lib.hid (HBAD.out (stepS_none_k hlf0 (joint_no_k (by omega) (by omega))))
    go_wp2_with fail
    refine (tmArity_any _ ⟨17, nd.v, nd.s⟩).mono ?_
    rintro e w3 ⟨rfl, b3⟩
    unfold pairV
    have hgr3 := grown_of_below b3
    have HX3 := Lib.hid (HX2.out.grown hgr3)
    have HT3 := Lib.hid (HT2.out.of_block (hgr3.block _ HT2.out.lt (by simp)))
    have HR3 := Lib.hid (HR2.out.of_block (hgr3.block _ HR2.out.lt (by simp)))
    have HBW3 := Lib.hid (HBW2.out.trans (show Below w.heap.size w2 w3 from ⟨hgr3.os, hgr3.tape, hgr3.output, hgr3.size, fun q hq => hgr3.block q (Nat.lt_of_lt_of_le hq HBW2.out.size) (by simp)⟩))
    have HN3 := Lib.hid (HN2.out.of_block (hgr3.block _ HN2.out.lt (by simp)))
    have hsz3 : w2.heap.size ≤ w3.heap.size := hgr3.size
    clear b3 hgr3

    clear hn0 hn1 hn2 HX2 HT2 HR2 HBW2 HN2 hx0 hx1 hx2 hf0 hf1 hf2 hxs
    obtain ⟨hn0, hn1, hn2, -, -, -, hns3⟩ := cells3 HN3.out
    obtain ⟨hx0, hx1, hx2, hf0, hf1, hf2, hxs⟩ := cells3 HX3.out.box
    obtain ⟨A0, e0, rfl⟩ := HX3.out.r0.form
    obtain ⟨A1, e1, rfl⟩ := HX3.out.r1.form
    obtain ⟨A2, e2, rfl⟩ := HX3.out.r2.form
    obtain ⟨hr0, hr1, hr2, hrf0, hrf1, hrf2, hrs⟩ := cells3 HR3.out
    go_wp2_with (go_at_call 116; refine (lbFind_nil _ _).mono ?_; rintro e w' ⟨rfl, rfl⟩)

    go_wp2
    refine bodyPost_ret (v := .tuple #[.agg #[.slice A0 X.f.length e0, .slice A1 X.i.length e1, .slice A2 X.o.length e2], .bool false]) (by simp [results, Try.results94, go_sem, hr0, hr1, hr2]) rfl ?_
    refine ⟨.slice A0 X.f.length e0, .slice A1 X.i.length e1, .slice A2 X.o.length e2, by rw [HOK.out], ?_, fun h => absurd (HOK.out.symm.trans h) (by simp), ⟨_, _, _, rfl⟩, ⟨_, _, _, rfl⟩, ⟨_, _, _, rfl⟩⟩
    refine Below.trans HBW3.out ?_
    repeat' (first | exact Below.refl _ _ | apply Below.drew | apply Below.setCell | apply Below.alloc | (simp; done) | omega | (simp; omega))
  · by_cases h15 : nd.k = 15 ∨ nd.k = 16
    · by_cases hs : nd.s = ByteArray.empty
      · have hv : nd.v ≠ 0 := fun h => hj (by unfold isJointB; rw [decide_eq_true h, decide_eq_true hs]; rcases h15 with h | h <;> rw [h] <;> rfl)
        have hn := str_none hs
        have HOK := Lib.hid (HBAD.out (stepS_none_k hlf0 (joint_no_v hv)))
        clear hj hs HBAD
        rcases h15 with k15 | k16
        · obtain ⟨A0, e0, rfl⟩ := HX2.out.r0.form
          obtain ⟨A1, e1, rfl⟩ := HX2.out.r1.form
          obtain ⟨A2, e2, rfl⟩ := HX2.out.r2.form
          obtain ⟨hr0, hr1, hr2, hrf0, hrf1, hrf2, hrs⟩ := cells3 HR2.out
          go_wp2
          refine bodyPost_ret (v := .tuple #[.agg #[.slice A0 X.f.length e0, .slice A1 X.i.length e1, .slice A2 X.o.length e2], .bool false]) (by simp [results, Try.results94, go_sem, hr0, hr1, hr2]) rfl ?_
          refine ⟨.slice A0 X.f.length e0, .slice A1 X.i.length e1, .slice A2 X.o.length e2, by rw [HOK.out], ?_, fun h => absurd (HOK.out.symm.trans h) (by simp), ⟨_, _, _, rfl⟩, ⟨_, _, _, rfl⟩, ⟨_, _, _, rfl⟩⟩
          refine Below.trans HBW2.out ?_
          repeat' (first | exact Below.refl _ _ | apply Below.drew | apply Below.setCell | apply Below.alloc | (simp; done) | omega | (simp; omega))
        · obtain ⟨A0, e0, rfl⟩ := HX2.out.r0.form
          obtain ⟨A1, e1, rfl⟩ := HX2.out.r1.form
          obtain ⟨A2, e2, rfl⟩ := HX2.out.r2.form
          obtain ⟨hr0, hr1, hr2, hrf0, hrf1, hrf2, hrs⟩ := cells3 HR2.out
          go_wp2
          refine bodyPost_ret (v := .tuple #[.agg #[.slice A0 X.f.length e0, .slice A1 X.i.length e1, .slice A2 X.o.length e2], .bool false]) (by simp [results, Try.results94, go_sem, hr0, hr1, hr2]) rfl ?_
          refine ⟨.slice A0 X.f.length e0, .slice A1 X.i.length e1, .slice A2 X.o.length e2, by rw [HOK.out], ?_, fun h => absurd (HOK.out.symm.trans h) (by simp), ⟨_, _, _, rfl⟩, ⟨_, _, _, rfl⟩, ⟨_, _, _, rfl⟩⟩
          refine Below.trans HBW2.out ?_
          repeat' (first | exact Below.refl _ _ | apply Below.drew | apply Below.setCell | apply Below.alloc | (simp; done) | omega | (simp; omega))
      · have hn := str_some hs
        have HOK := Lib.hid (HBAD.out (stepS_none_k hlf0 (joint_no_s hs)))
        clear hj hs HBAD
        rcases h15 with k15 | k16
        · obtain ⟨A0, e0, rfl⟩ := HX2.out.r0.form
          obtain ⟨A1, e1, rfl⟩ := HX2.out.r1.form
          obtain ⟨A2, e2, rfl⟩ := HX2.out.r2.form
          obtain ⟨hr0, hr1, hr2, hrf0, hrf1, hrf2, hrs⟩ := cells3 HR2.out
          go_wp2
          refine bodyPost_ret (v := .tuple #[.agg #[.slice A0 X.f.length e0, .slice A1 X.i.length e1, .slice A2 X.o.length e2], .bool false]) (by simp [results, Try.results94, go_sem, hr0, hr1, hr2]) rfl ?_
          refine ⟨.slice A0 X.f.length e0, .slice A1 X.i.length e1, .slice A2 X.o.length e2, by rw [HOK.out], ?_, fun h => absurd (HOK.out.symm.trans h) (by simp), ⟨_, _, _, rfl⟩, ⟨_, _, _, rfl⟩, ⟨_, _, _, rfl⟩⟩
          refine Below.trans HBW2.out ?_
          repeat' (first | exact Below.refl _ _ | apply Below.drew | apply Below.setCell | apply Below.alloc | (simp; done) | omega | (simp; omega))
        · obtain ⟨A0, e0, rfl⟩ := HX2.out.r0.form
          obtain ⟨A1, e1, rfl⟩ := HX2.out.r1.form
          obtain ⟨A2, e2, rfl⟩ := HX2.out.r2.form
          obtain ⟨hr0, hr1, hr2, hrf0, hrf1, hrf2, hrs⟩ := cells3 HR2.out
          go_wp2
          refine bodyPost_ret (v := .tuple #[.agg #[.slice A0 X.f.length e0, .slice A1 X.i.length e1, .slice A2 X.o.length e2], .bool false]) (by simp [results, Try.results94, go_sem, hr0, hr1, hr2]) rfl ?_
          refine ⟨.slice A0 X.f.length e0, .slice A1 X.i.length e1, .slice A2 X.o.length e2, by rw [HOK.out], ?_, fun h => absurd (HOK.out.symm.trans h) (by simp), ⟨_, _, _, rfl⟩, ⟨_, _, _, rfl⟩, ⟨_, _, _, rfl⟩⟩
          refine Below.trans HBW2.out ?_
          repeat' (first | exact Below.refl _ _ | apply Below.drew | apply Below.setCell | apply Below.alloc | (simp; done) | omega | (simp; omega))
    · have n15 : nd.k ≠ 15 := fun h => h15 (Or.inl h)
      have n16 : nd.k ≠ 16 := fun h => h15 (Or.inr h)
      have HOK := Lib.hid (HBAD.out (stepS_none_k hlf0 (joint_no_k n15 n16)))
      clear hj h15 HBAD
      obtain ⟨A0, e0, rfl⟩ := HX2.out.r0.form
      obtain ⟨A1, e1, rfl⟩ := HX2.out.r1.form
      obtain ⟨A2, e2, rfl⟩ := HX2.out.r2.form
      obtain ⟨hr0, hr1, hr2, hrf0, hrf1, hrf2, hrs⟩ := cells3 HR2.out
      go_wp2
      refine bodyPost_ret (v := .tuple #[.agg #[.slice A0 X.f.length e0, .slice A1 X.i.length e1, .slice A2 X.o.length e2], .bool false]) (by simp [results, Try.results94, go_sem, hr0, hr1, hr2]) rfl ?_
      refine ⟨.slice A0 X.f.length e0, .slice A1 X.i.length e1, .slice A2 X.o.length e2, by rw [HOK.out], ?_, fun h => absurd (HOK.out.symm.trans h) (by simp), ⟨_, _, _, rfl⟩, ⟨_, _, _, rfl⟩, ⟨_, _, _, rfl⟩⟩
      refine Below.trans HBW2.out ?_
      repeat' (first | exact Below.refl _ _ | apply Below.drew | apply Below.setCell | apply Below.alloc | (simp; done) | omega | (simp; omega))
end Go.Proofs.Ytiealgnmhjebeaa
