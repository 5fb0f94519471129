/- The model's scan of a term: a round's case. -/
import Derived.Test.YtiealgnmhjebeaaTmS0
import Derived.Deep.CutRange
namespace Go.Proofs.Ytiealgnmhjebeaa
set_option maxRecDepth 100000
open Go Go.RowKit Go.Deep

set_option maxRecDepth 1000000 in
set_option maxHeartbeats 6400000 in
theorem scan_B (w wr : World) (B : Nat) (A : Option Addr) (c : Nat) (x : List Nd) (HV : Hid (RdN w (fun b => b < B) (.slice A x.length c) x)) (HB : Hid (B ≤ w.heap.size)) (hxl : x.length ≤ 9223372036854775807) (hl1 : 1 ≤ x.length) (hl2 : x.length ≤ 400)
    (k : Nat) (X : Sc) (v0 v1 v2 : Value) (_hk : k ≤ x.length) (HSC : Hid (scanS .nil 0 (x.take k) = some X)) (HG : Hid (X.Good k)) (HBW : Hid (Below w.heap.size w wr)) (HT : Hid (CellsAt wr w.heap.size tTm [.slice A x.length c])) (HR : Hid (CellsAt wr (w.heap.size + 1) tInfo [.slice none 0 0, .slice none 0 0, .slice none 0 0])) (HX : Hid (Box3 wr (w.heap.size + 2) (w.heap.size + 3) v0 v1 v2 X.f X.i X.o))
    (hlt : k < x.length) (hsel : isJointB (x.getD k nd0) = true ∧ Hid (stepS X k (x.getD k nd0) = none)) (K : Act → World → Prop) (c1 c2 c16 c17 c18 c19 c20 c21 c22 c202 c203 c204 c205 c206 c207 c208 c209 c210 c211 : Value) (u5 u7 u8 u9 u10 u11 u12 u13 u14 u15 u26 u27 u28 u29 u30 u31 u32 u33 u34 u35 u36 u37 u38 u39 u40 u41 u42 u43 u44 u45 u46 u47 u48 u49 u50 u51 u52 u53 u54 u55 u56 u57 u58 u59 u60 u61 u62 u63 u64 u65 u66 u67 u68 u69 u70 u71 u72 u73 u74 u75 u76 u77 u78 u79 u80 u81 u82 u83 u84 u85 u86 u87 u88 u89 u90 u91 u92 u93 u94 u95 u96 u97 u98 u99 u100 u101 u102 u103 u104 u105 u106 u107 u108 u109 u110 u111 u112 u113 u114 u115 u116 u117 u118 u119 u120 u121 u122 u123 u124 u125 u126 u127 u128 u129 u130 u131 u132 u133 u134 u135 u136 u137 u138 u139 u140 u141 u142 u143 u144 u145 u146 u147 u148 u149 u150 u151 u152 u153 u154 u155 u156 u157 u158 u159 u160 u161 u162 u163 u164 u165 u166 u167 u168 u169 u170 u171 u172 u173 u174 u175 u176 u177 u178 u179 u180 u181 u182 u183 u184 u185 u186 u187 u188 u189 u190 u191 u192 u193 u194 u195 u196 u197 u198 u199 u200 u201 : Value) :
    Code.wp Try.prog scanBody (Exit.then (fun a' w'' => WI w A c x c1 c2 c16 c17 c18 c19 c20 c21 c22 c202 c203 c204 c205 c206 c207 c208 c209 c210 c211 a' w'' ∧ Wmu x a' < Wmu x ⟨#[.slice none 0 0, c1, c2, .pointer (some ⟨w.heap.size, 0, none⟩), .pointer (some ⟨w.heap.size + 1, 0, none⟩), u5, .pointer (some ⟨w.heap.size + 2, 0, none⟩), u7, u8, u9, u10, u11, u12, u13, u14, u15, c16, c17, c18, c19, c20, c21, c22, .slice A x.length c, .int .i64 x.length, (.int .i64 k), u26, u27, u28, u29, u30, u31, u32, u33, u34, u35, u36, u37, u38, u39, u40, u41, u42, u43, u44, u45, u46, u47, u48, u49, u50, u51, u52, u53, u54, u55, u56, u57, u58, u59, u60, u61, u62, u63, u64, u65, u66, u67, u68, u69, u70, u71, u72, u73, u74, u75, u76, u77, u78, u79, u80, u81, u82, u83, u84, u85, u86, u87, u88, u89, u90, u91, u92, u93, u94, u95, u96, u97, u98, u99, u100, u101, u102, u103, u104, u105, u106, u107, u108, u109, u110, u111, u112, u113, u114, u115, u116, u117, u118, u119, u120, u121, u122, u123, u124, u125, u126, u127, u128, u129, u130, u131, u132, u133, u134, u135, u136, u137, u138, u139, u140, u141, u142, u143, u144, u145, u146, u147, u148, u149, u150, u151, u152, u153, u154, u155, u156, u157, u158, u159, u160, u161, u162, u163, u164, u165, u166, u167, u168, u169, u170, u171, u172, u173, u174, u175, u176, u177, u178, u179, u180, u181, u182, u183, u184, u185, u186, u187, u188, u189, u190, u191, u192, u193, u194, u195, u196, u197, u198, u199, u200, u201, c202, c203, c204, c205, c206, c207, c208, c209, c210, c211], []⟩) (Exit.then K (bodyPost Try.prog Try.f94 (ScanSaid w x)))) ⟨#[.slice none 0 0, c1, c2, .pointer (some ⟨w.heap.size, 0, none⟩), .pointer (some ⟨w.heap.size + 1, 0, none⟩), u5, .pointer (some ⟨w.heap.size + 2, 0, none⟩), u7, u8, u9, u10, u11, u12, u13, u14, u15, c16, c17, c18, c19, c20, c21, c22, .slice A x.length c, .int .i64 x.length, (.int .i64 k), u26, u27, u28, u29, u30, u31, u32, u33, u34, u35, u36, u37, u38, u39, u40, u41, u42, u43, u44, u45, u46, u47, u48, u49, u50, u51, u52, u53, u54, u55, u56, u57, u58, u59, u60, u61, u62, u63, u64, u65, u66, u67, u68, u69, u70, u71, u72, u73, u74, u75, u76, u77, u78, u79, u80, u81, u82, u83, u84, u85, u86, u87, u88, u89, u90, u91, u92, u93, u94, u95, u96, u97, u98, u99, u100, u101, u102, u103, u104, u105, u106, u107, u108, u109, u110, u111, u112, u113, u114, u115, u116, u117, u118, u119, u120, u121, u122, u123, u124, u125, u126, u127, u128, u129, u130, u131, u132, u133, u134, u135, u136, u137, u138, u139, u140, u141, u142, u143, u144, u145, u146, u147, u148, u149, u150, u151, u152, u153, u154, u155, u156, u157, u158, u159, u160, u161, u162, u163, u164, u165, u166, u167, u168, u169, u170, u171, u172, u173, u174, u175, u176, u177, u178, u179, u180, u181, u182, u183, u184, u185, u186, u187, u188, u189, u190, u191, u192, u193, u194, u195, u196, u197, u198, u199, u200, u201, c202, c203, c204, c205, c206, c207, c208, c209, c210, c211], []⟩ wr := by
  conv => arg 2; whnf
  have hsz : w.heap.size + 3 ≤ wr.heap.size := by have := HX.out.lt; have := HX.out.box.lt; omega
  have hbw := HBW.out
  have HNX := Lib.hid (scan_next hlt HSC.out)
  have HBAD := Lib.hid (scan_bad hlt HSC.out)
  obtain ⟨b, o, rfl, hb, hc0, hc1, hc2⟩ := (HV.out.below hbw HB.out).at hlt
  generalize x.getD k nd0 = nd at hc0 hc1 hc2 HNX HBAD hsel
  have HSEL := Lib.hid hsel
  clear hsel
  have hkI : (k : Int) < (x.length : Int) := by omega
  clear hbw
  go_wp2_with fail
  refine (tmLeaf_any _ nd).mono ?_
  rintro e w2 ⟨rfl, b2⟩
  have HB3 : Hid (Below wr.heap.size wr w2) := Lib.hid (by refine Below.trans ?_ (b2.mono (by simp)); repeat' (first | exact Below.refl _ _ | apply Below.drew | apply Below.setCell | apply Below.alloc | (simp; done) | omega | (simp; omega)))
  have HN : Hid (CellsAt w2 wr.heap.size tNd [.int .i64 nd.k, .int .i64 nd.v, .string nd.s]) := Lib.hid (CellsAt.below (cellsAt_new' _ _ _ [.int .i64 nd.k, .int .i64 nd.v, .string nd.s] _ rfl rfl) b2 (by simp))
  have HX2 := Lib.hid (HX.out.below HB3.out)
  have HT2 := Lib.hid (HT.out.below HB3.out (by omega))
  have HR2 := Lib.hid (HR.out.below HB3.out (by omega))
  have HBW2 := Lib.hid (HBW.out.trans (HB3.out.mono HBW.out.size))
  have hsz2 : wr.heap.size ≤ w2.heap.size := HB3.out.size
  clear b2 hc0 hc1 hc2 HX HT HR HBW HB3
  have HN2 := HN
  clear HN
  obtain ⟨hn0, hn1, hn2, -, -, -, hns⟩ := cells3 HN2.out
  have HLF := Lib.hid HG.out.1
  obtain ⟨hx0, hx1, hx2, hf0, hf1, hf2, hxs⟩ := cells3 HX2.out.box
  obtain ⟨hj, HNO⟩ := HSEL.out
  have hlf0 : isLeafB nd = false := joint_leaf hj
  rw [hlf0]
  have k17 : ¬ nd.k = 17 := by rcases joint_kind hj with h | h <;> omega
  obtain ⟨hjk, hjv, hjs⟩ := joint_yes hj
  have hn := str_none hjs
  have HJ := Lib.hid hj
  clear hj hjs
  by_cases h2 : 2 ≤ k
  · obtain ⟨m, e1, hkm⟩ : ∃ m : Nat, (k : Int) - 1 = (m : Int) ∧ k = m + 1 := ⟨k - 1, by omega, by omega⟩
    have HKM := Lib.hid hkm
    have h2I : (2 : Int) ≤ (k : Int) := by omega
    have hm1 : 1 ≤ m := by omega
    clear hkm
    obtain ⟨f0, d0, rfl, -⟩ := HX2.out.r0.cells (by have := HKM.out; have := HLF.out.1; omega)
    obtain ⟨f1, d1, rfl, -⟩ := HX2.out.r1.cells (by have := HKM.out; have := HLF.out.2.1; omega)
    obtain ⟨f2, d2, rfl, -⟩ := HX2.out.r2.cells (by have := HKM.out; have := HLF.out.2.2; omega)
    have hmf : (m : Int) < (X.f.length : Int) := by have := HKM.out; have := HLF.out.1; omega
    have hmi : (m : Int) < (X.i.length : Int) := by have := HKM.out; have := HLF.out.2.1; omega
    have hmo : (m : Int) < (X.o.length : Int) := by have := HKM.out; have := HLF.out.2.2; omega
    have hgm := HG.out.2 m (by have := HKM.out; omega)
    by_cases hfc : 1 ≤ X.f.getD m 0
    · obtain ⟨am, ham⟩ : ∃ am : Nat, X.f.getD m 0 = (am : Int) + 1 := ⟨(X.f.getD m 0 - 1).toNat, by omega⟩
      have HFM := Lib.hid ham
      have ham2 : am + 1 ≤ m := by omega
      have hgq := HG.out.2 am (by have := HKM.out; omega)
      have haf : (am : Int) < (X.f.length : Int) := by omega
      have hai : (am : Int) < (X.i.length : Int) := by omega
      have hao : (am : Int) < (X.o.length : Int) := by omega
      have HSQ := Lib.hid (fun h15 => stepS_seq (X := X) (n := nd) hlf0 HJ.out hm1 rfl ham h15)
      have HPR := Lib.hid (fun h16 => stepS_par (X := X) (n := nd) hlf0 HJ.out hm1 rfl ham h16)
      rw [← HKM.out] at HSQ HPR
      clear ham hfc
      obtain ⟨fa, HFA⟩ : ∃ fa, Hid (X.f.getD am 0 = fa) := ⟨_, Lib.hid rfl⟩
      obtain ⟨ia, HIA⟩ : ∃ ia, Hid (X.i.getD am 0 = ia) := ⟨_, Lib.hid rfl⟩
      obtain ⟨ib, HIB⟩ : ∃ ib, Hid (X.i.getD m 0 = ib) := ⟨_, Lib.hid rfl⟩
      obtain ⟨oa, HOA⟩ : ∃ oa, Hid (X.o.getD am 0 = oa) := ⟨_, Lib.hid rfl⟩
      obtain ⟨ob, HOB⟩ : ∃ ob, Hid (X.o.getD m 0 = ob) := ⟨_, Lib.hid rfl⟩
      rw [HFA.out, HIA.out, HIB.out, HOA.out, HOB.out] at HSQ HPR
      rw [HFA.out, HIA.out, HOA.out] at hgq
      rw [HIB.out, HOB.out] at hgm
      obtain ⟨p1, p2, p3, p4, p5, p6⟩ := hgq
      obtain ⟨-, -, q3, q4, q5, q6⟩ := hgm
      have hcfm : w2.cell? ⟨f0, m, none⟩ = some (.int .i64 ((am : Int) + 1)) := by rw [← HFM.out]; exact HX2.out.r0.cell (by have := HLF.out.1; have := HLF.out.2.1; have := HLF.out.2.2; omega)
      have hcfa : w2.cell? ⟨f0, am, none⟩ = some (.int .i64 fa) := by rw [← HFA.out]; exact HX2.out.r0.cell (by have := HLF.out.1; have := HLF.out.2.1; have := HLF.out.2.2; omega)
      have hcia : w2.cell? ⟨f1, am, none⟩ = some (.int .i64 ia) := by rw [← HIA.out]; exact HX2.out.r1.cell (by have := HLF.out.1; have := HLF.out.2.1; have := HLF.out.2.2; omega)
      have hcib : w2.cell? ⟨f1, m, none⟩ = some (.int .i64 ib) := by rw [← HIB.out]; exact HX2.out.r1.cell (by have := HLF.out.1; have := HLF.out.2.1; have := HLF.out.2.2; omega)
      have hcoa : w2.cell? ⟨f2, am, none⟩ = some (.int .i64 oa) := by rw [← HOA.out]; exact HX2.out.r2.cell (by have := HLF.out.1; have := HLF.out.2.1; have := HLF.out.2.2; omega)
      have hcob : w2.cell? ⟨f2, m, none⟩ = some (.int .i64 ob) := by rw [← HOB.out]; exact HX2.out.r2.cell (by have := HLF.out.1; have := HLF.out.2.1; have := HLF.out.2.2; omega)
      rcases hjk with k15 | k16
      · by_cases hoi : oa = ib
        · have HST := Lib.hid ((HSQ.out k15).trans (if_pos hoi))
          exact absurd (HST.out.symm.trans HNO.out) (by simp)
        · have HOK := Lib.hid (HBAD.out ((HSQ.out k15).trans (if_neg hoi)))
          clear HSQ HPR HBAD
          go_wp2
          go_quiet (fail)
          have HX3 := Lib.hid (HX2.out.grown (grown_drewN w2 nq))
          have HT3 := Lib.hid (HT2.out.of_block ((grown_drewN w2 nq).block _ HT2.out.lt (by simp)))
          have HR3 := Lib.hid (HR2.out.of_block ((grown_drewN w2 nq).block _ HR2.out.lt (by simp)))
          have HBW3 := Lib.hid (HBW2.out.trans (show Below w.heap.size w2 (w2.drewN nq) from ⟨(grown_drewN w2 nq).os, (grown_drewN w2 nq).tape, (grown_drewN w2 nq).output, (grown_drewN w2 nq).size, fun q hq => (grown_drewN w2 nq).block q (Nat.lt_of_lt_of_le hq HBW2.out.size) (by simp)⟩))
          have HN3 := Lib.hid (HN2.out.of_block ((grown_drewN w2 nq).block _ HN2.out.lt (by simp)))
          have hsz3 : w2.heap.size ≤ (w2.drewN nq).heap.size := (grown_drewN w2 nq).size
          clear hcfm hcfa hcia hcib hcoa hcob
          generalize w2.drewN nq = w3 at HX3 HT3 HR3 HBW3 HN3 hsz3 ⊢
          clear hx0 hx1 hx2 hf0 hf1 hf2 hxs hn0 hn1 hn2
          obtain ⟨hx0, hx1, hx2, hf0, hf1, hf2, hxs⟩ := cells3 HX3.out.box
          obtain ⟨hn0, hn1, hn2, -, -, -, -⟩ := cells3 HN3.out
          have hcfm : w3.cell? ⟨f0, m, none⟩ = some (.int .i64 ((am : Int) + 1)) := by rw [← HFM.out]; exact HX3.out.r0.cell (by have := HLF.out.1; have := HLF.out.2.1; have := HLF.out.2.2; omega)
          have hcfa : w3.cell? ⟨f0, am, none⟩ = some (.int .i64 fa) := by rw [← HFA.out]; exact HX3.out.r0.cell (by have := HLF.out.1; have := HLF.out.2.1; have := HLF.out.2.2; omega)
          have hcia : w3.cell? ⟨f1, am, none⟩ = some (.int .i64 ia) := by rw [← HIA.out]; exact HX3.out.r1.cell (by have := HLF.out.1; have := HLF.out.2.1; have := HLF.out.2.2; omega)
          have hcib : w3.cell? ⟨f1, m, none⟩ = some (.int .i64 ib) := by rw [← HIB.out]; exact HX3.out.r1.cell (by have := HLF.out.1; have := HLF.out.2.1; have := HLF.out.2.2; omega)
          have hcoa : w3.cell? ⟨f2, am, none⟩ = some (.int .i64 oa) := by rw [← HOA.out]; exact HX3.out.r2.cell (by have := HLF.out.1; have := HLF.out.2.1; have := HLF.out.2.2; omega)
          have hcob : w3.cell? ⟨f2, m, none⟩ = some (.int .i64 ob) := by rw [← HOB.out]; exact HX3.out.r2.cell (by have := HLF.out.1; have := HLF.out.2.1; have := HLF.out.2.2; omega)
          go_wp2
          go_quiet (fail)
          have HX4 := Lib.hid (HX3.out.grown (grown_drewN w3 nq))
          have HT4 := Lib.hid (HT3.out.of_block ((grown_drewN w3 nq).block _ HT3.out.lt (by simp)))
          have HR4 := Lib.hid (HR3.out.of_block ((grown_drewN w3 nq).block _ HR3.out.lt (by simp)))
          have HBW4 := Lib.hid (HBW3.out.trans (show Below w.heap.size w3 (w3.drewN nq) from ⟨(grown_drewN w3 nq).os, (grown_drewN w3 nq).tape, (grown_drewN w3 nq).output, (grown_drewN w3 nq).size, fun q hq => (grown_drewN w3 nq).block q (Nat.lt_of_lt_of_le hq HBW3.out.size) (by simp)⟩))
          have HN4 := Lib.hid (HN3.out.of_block ((grown_drewN w3 nq).block _ HN3.out.lt (by simp)))
          have hsz4 : w3.heap.size ≤ (w3.drewN nq).heap.size := (grown_drewN w3 nq).size
          clear hcfm hcfa hcia hcib hcoa hcob
          generalize w3.drewN nq = w4 at HX4 HT4 HR4 HBW4 HN4 hsz4 ⊢
          clear hx0 hx1 hx2 hf0 hf1 hf2 hxs hn0 hn1 hn2
          obtain ⟨hx0, hx1, hx2, hf0, hf1, hf2, hxs⟩ := cells3 HX4.out.box
          obtain ⟨hn0, hn1, hn2, -, -, -, -⟩ := cells3 HN4.out
          have hcfm : w4.cell? ⟨f0, m, none⟩ = some (.int .i64 ((am : Int) + 1)) := by rw [← HFM.out]; exact HX4.out.r0.cell (by have := HLF.out.1; have := HLF.out.2.1; have := HLF.out.2.2; omega)
          have hcfa : w4.cell? ⟨f0, am, none⟩ = some (.int .i64 fa) := by rw [← HFA.out]; exact HX4.out.r0.cell (by have := HLF.out.1; have := HLF.out.2.1; have := HLF.out.2.2; omega)
          have hcia : w4.cell? ⟨f1, am, none⟩ = some (.int .i64 ia) := by rw [← HIA.out]; exact HX4.out.r1.cell (by have := HLF.out.1; have := HLF.out.2.1; have := HLF.out.2.2; omega)
          have hcib : w4.cell? ⟨f1, m, none⟩ = some (.int .i64 ib) := by rw [← HIB.out]; exact HX4.out.r1.cell (by have := HLF.out.1; have := HLF.out.2.1; have := HLF.out.2.2; omega)
          have hcoa : w4.cell? ⟨f2, am, none⟩ = some (.int .i64 oa) := by rw [← HOA.out]; exact HX4.out.r2.cell (by have := HLF.out.1; have := HLF.out.2.1; have := HLF.out.2.2; omega)
          have hcob : w4.cell? ⟨f2, m, none⟩ = some (.int .i64 ob) := by rw [← HOB.out]; exact HX4.out.r2.cell (by have := HLF.out.1; have := HLF.out.2.1; have := HLF.out.2.2; omega)
          obtain ⟨hr0, hr1, hr2, hrf0, hrf1, hrf2, hrs⟩ := cells3 HR4.out
          go_wp2
          refine bodyPost_ret (v := .tuple #[.agg #[.slice (some ⟨f0, 0, none⟩) X.f.length d0, .slice (some ⟨f1, 0, none⟩) X.i.length d1, .slice (some ⟨f2, 0, none⟩) X.o.length d2], .bool false]) (by simp [results, Try.results94, go_sem, hr0, hr1, hr2]) rfl ?_
          refine ⟨.slice (some ⟨f0, 0, none⟩) X.f.length d0, .slice (some ⟨f1, 0, none⟩) X.i.length d1, .slice (some ⟨f2, 0, none⟩) X.o.length d2, by rw [HOK.out], ?_, fun h => absurd (HOK.out.symm.trans h) (by simp), ⟨_, _, _, rfl⟩, ⟨_, _, _, rfl⟩, ⟨_, _, _, rfl⟩⟩
          refine Below.trans HBW4.out ?_
          repeat' (first | exact Below.refl _ _ | apply Below.drew | apply Below.setCell | apply Below.alloc | (simp; done) | omega | (simp; omega))
      · by_cases hin : ia + ib ≤ 12
        · by_cases hout : oa + ob ≤ 12
          · have HST := Lib.hid ((HPR.out k16).trans (if_pos ⟨hin, hout⟩))
            exact absurd (HST.out.symm.trans HNO.out) (by simp)
          · have HOK := Lib.hid (HBAD.out ((HPR.out k16).trans (if_neg (fun h => hout h.2))))
            clear HSQ HPR HBAD
            go_wp2
            go_quiet (fail)
            have HX3 := Lib.hid (HX2.out.grown (grown_drewN w2 nq))
            have HT3 := Lib.hid (HT2.out.of_block ((grown_drewN w2 nq).block _ HT2.out.lt (by simp)))
            have HR3 := Lib.hid (HR2.out.of_block ((grown_drewN w2 nq).block _ HR2.out.lt (by simp)))
            have HBW3 := Lib.hid (HBW2.out.trans (show Below w.heap.size w2 (w2.drewN nq) from ⟨(grown_drewN w2 nq).os, (grown_drewN w2 nq).tape, (grown_drewN w2 nq).output, (grown_drewN w2 nq).size, fun q hq => (grown_drewN w2 nq).block q (Nat.lt_of_lt_of_le hq HBW2.out.size) (by simp)⟩))
            have HN3 := Lib.hid (HN2.out.of_block ((grown_drewN w2 nq).block _ HN2.out.lt (by simp)))
            have hsz3 : w2.heap.size ≤ (w2.drewN nq).heap.size := (grown_drewN w2 nq).size
            clear hcfm hcfa hcia hcib hcoa hcob
            generalize w2.drewN nq = w3 at HX3 HT3 HR3 HBW3 HN3 hsz3 ⊢
            clear hx0 hx1 hx2 hf0 hf1 hf2 hxs hn0 hn1 hn2
            obtain ⟨hx0, hx1, hx2, hf0, hf1, hf2, hxs⟩ := cells3 HX3.out.box
            obtain ⟨hn0, hn1, hn2, -, -, -, -⟩ := cells3 HN3.out
            have hcfm : w3.cell? ⟨f0, m, none⟩ = some (.int .i64 ((am : Int) + 1)) := by rw [← HFM.out]; exact HX3.out.r0.cell (by have := HLF.out.1; have := HLF.out.2.1; have := HLF.out.2.2; omega)
            have hcfa : w3.cell? ⟨f0, am, none⟩ = some (.int .i64 fa) := by rw [← HFA.out]; exact HX3.out.r0.cell (by have := HLF.out.1; have := HLF.out.2.1; have := HLF.out.2.2; omega)
            have hcia : w3.cell? ⟨f1, am, none⟩ = some (.int .i64 ia) := by rw [← HIA.out]; exact HX3.out.r1.cell (by have := HLF.out.1; have := HLF.out.2.1; have := HLF.out.2.2; omega)
            have hcib : w3.cell? ⟨f1, m, none⟩ = some (.int .i64 ib) := by rw [← HIB.out]; exact HX3.out.r1.cell (by have := HLF.out.1; have := HLF.out.2.1; have := HLF.out.2.2; omega)
            have hcoa : w3.cell? ⟨f2, am, none⟩ = some (.int .i64 oa) := by rw [← HOA.out]; exact HX3.out.r2.cell (by have := HLF.out.1; have := HLF.out.2.1; have := HLF.out.2.2; omega)
            have hcob : w3.cell? ⟨f2, m, none⟩ = some (.int .i64 ob) := by rw [← HOB.out]; exact HX3.out.r2.cell (by have := HLF.out.1; have := HLF.out.2.1; have := HLF.out.2.2; omega)
            obtain ⟨hr0, hr1, hr2, hrf0, hrf1, hrf2, hrs⟩ := cells3 HR3.out
            go_wp2
            refine bodyPost_ret (v := .tuple #[.agg #[.slice (some ⟨f0, 0, none⟩) X.f.length d0, .slice (some ⟨f1, 0, none⟩) X.i.length d1, .slice (some ⟨f2, 0, none⟩) X.o.length d2], .bool false]) (by simp [results, Try.results94, go_sem, hr0, hr1, hr2]) rfl ?_
            refine ⟨.slice (some ⟨f0, 0, none⟩) X.f.length d0, .slice (some ⟨f1, 0, none⟩) X.i.length d1, .slice (some ⟨f2, 0, none⟩) X.o.length d2, by rw [HOK.out], ?_, fun h => absurd (HOK.out.symm.trans h) (by simp), ⟨_, _, _, rfl⟩, ⟨_, _, _, rfl⟩, ⟨_, _, _, rfl⟩⟩
            refine Below.trans HBW3.out ?_
            repeat' (first | exact Below.refl _ _ | apply Below.drew | apply Below.setCell | apply Below.alloc | (simp; done) | omega | (simp; omega))
        · have HOK := Lib.hid (HBAD.out ((HPR.out k16).trans (if_neg (fun h => hin h.1))))
          clear HSQ HPR HBAD
          go_wp2
          go_quiet (fail)
          have HX3 := Lib.hid (HX2.out.grown (grown_drewN w2 nq))
          have HT3 := Lib.hid (HT2.out.of_block ((grown_drewN w2 nq).block _ HT2.out.lt (by simp)))
          have HR3 := Lib.hid (HR2.out.of_block ((grown_drewN w2 nq).block _ HR2.out.lt (by simp)))
          have HBW3 := Lib.hid (HBW2.out.trans (show Below w.heap.size w2 (w2.drewN nq) from ⟨(grown_drewN w2 nq).os, (grown_drewN w2 nq).tape, (grown_drewN w2 nq).output, (grown_drewN w2 nq).size, fun q hq => (grown_drewN w2 nq).block q (Nat.lt_of_lt_of_le hq HBW2.out.size) (by simp)⟩))
          have HN3 := Lib.hid (HN2.out.of_block ((grown_drewN w2 nq).block _ HN2.out.lt (by simp)))
          have hsz3 : w2.heap.size ≤ (w2.drewN nq).heap.size := (grown_drewN w2 nq).size
          clear hcfm hcfa hcia hcib hcoa hcob
          generalize w2.drewN nq = w3 at HX3 HT3 HR3 HBW3 HN3 hsz3 ⊢
          clear hx0 hx1 hx2 hf0 hf1 hf2 hxs hn0 hn1 hn2
          obtain ⟨hx0, hx1, hx2, hf0, hf1, hf2, hxs⟩ := cells3 HX3.out.box
          obtain ⟨hn0, hn1, hn2, -, -, -, -⟩ := cells3 HN3.out
          have hcfm : w3.cell? ⟨f0, m, none⟩ = some (.int .i64 ((am : Int) + 1)) := by rw [← HFM.out]; exact HX3.out.r0.cell (by have := HLF.out.1; have := HLF.out.2.1; have := HLF.out.2.2; omega)
          have hcfa : w3.cell? ⟨f0, am, none⟩ = some (.int .i64 fa) := by rw [← HFA.out]; exact HX3.out.r0.cell (by have := HLF.out.1; have := HLF.out.2.1; have := HLF.out.2.2; omega)
          have hcia : w3.cell? ⟨f1, am, none⟩ = some (.int .i64 ia) := by rw [← HIA.out]; exact HX3.out.r1.cell (by have := HLF.out.1; have := HLF.out.2.1; have := HLF.out.2.2; omega)
          have hcib : w3.cell? ⟨f1, m, none⟩ = some (.int .i64 ib) := by rw [← HIB.out]; exact HX3.out.r1.cell (by have := HLF.out.1; have := HLF.out.2.1; have := HLF.out.2.2; omega)
          have hcoa : w3.cell? ⟨f2, am, none⟩ = some (.int .i64 oa) := by rw [← HOA.out]; exact HX3.out.r2.cell (by have := HLF.out.1; have := HLF.out.2.1; have := HLF.out.2.2; omega)
          have hcob : w3.cell? ⟨f2, m, none⟩ = some (.int .i64 ob) := by rw [← HOB.out]; exact HX3.out.r2.cell (by have := HLF.out.1; have := HLF.out.2.1; have := HLF.out.2.2; omega)
          obtain ⟨hr0, hr1, hr2, hrf0, hrf1, hrf2, hrs⟩ := cells3 HR3.out
          go_wp2
          refine bodyPost_ret (v := .tuple #[.agg #[.slice (some ⟨f0, 0, none⟩) X.f.length d0, .slice (some ⟨f1, 0, none⟩) X.i.length d1, .slice (some ⟨f2, 0, none⟩) X.o.length d2], .bool false]) (by simp [results, Try.results94, go_sem, hr0, hr1, hr2]) rfl ?_
          refine ⟨.slice (some ⟨f0, 0, none⟩) X.f.length d0, .slice (some ⟨f1, 0, none⟩) X.i.length d1, .slice (some ⟨f2, 0, none⟩) X.o.length d2, by rw [HOK.out], ?_, fun h => absurd (HOK.out.symm.trans h) (by simp), ⟨_, _, _, rfl⟩, ⟨_, _, _, rfl⟩, ⟨_, _, _, rfl⟩⟩
          refine Below.trans HBW3.out ?_
          repeat' (first | exact Below.refl _ _ | apply Below.drew | apply Below.setCell | apply Below.alloc | (simp; done) | omega | (simp; omega))
    · have hcf0 : w2.cell? ⟨f0, m, none⟩ = some (.int .i64 (X.f.getD m 0)) := HX2.out.r0.cell (by omega)
      have HOK := Lib.hid (HBAD.out (stepS_none_f hlf0 (by have := HKM.out; rw [this, Nat.add_sub_cancel]; omega)))
      have hfc2 : X.f.getD m 0 < 1 := by omega
      generalize X.f.getD m 0 = fm at hcf0 hfc2
      clear hfc hgm
      rcases hjk with k15 | k16
      · obtain ⟨hr0, hr1, hr2, hrf0, hrf1, hrf2, hrs⟩ := cells3 HR2.out
        go_wp2
        refine bodyPost_ret (v := .tuple #[.agg #[.slice (some ⟨f0, 0, none⟩) X.f.length d0, .slice (some ⟨f1, 0, none⟩) X.i.length d1, .slice (some ⟨f2, 0, none⟩) X.o.length d2], .bool false]) (by simp [results, Try.results94, go_sem, hr0, hr1, hr2]) rfl ?_
        refine ⟨.slice (some ⟨f0, 0, none⟩) X.f.length d0, .slice (some ⟨f1, 0, none⟩) X.i.length d1, .slice (some ⟨f2, 0, none⟩) X.o.length d2, by rw [HOK.out], ?_, fun h => absurd (HOK.out.symm.trans h) (by simp), ⟨_, _, _, rfl⟩, ⟨_, _, _, rfl⟩, ⟨_, _, _, rfl⟩⟩
        refine Below.trans HBW2.out ?_
        repeat' (first | exact Below.refl _ _ | apply Below.drew | apply Below.setCell | apply Below.alloc | (simp; done) | omega | (simp; omega))
      · obtain ⟨hr0, hr1, hr2, hrf0, hrf1, hrf2, hrs⟩ := cells3 HR2.out
        go_wp2
        refine bodyPost_ret (v := .tuple #[.agg #[.slice (some ⟨f0, 0, none⟩) X.f.length d0, .slice (some ⟨f1, 0, none⟩) X.i.length d1, .slice (some ⟨f2, 0, none⟩) X.o.length d2], .bool false]) (by simp [results, Try.results94, go_sem, hr0, hr1, hr2]) rfl ?_
        refine ⟨.slice (some ⟨f0, 0, none⟩) X.f.length d0, .slice (some ⟨f1, 0, none⟩) X.i.length d1, .slice (some ⟨f2, 0, none⟩) X.o.length d2, by rw [HOK.out], ?_, fun h => absurd (HOK.out.symm.trans h) (by simp), ⟨_, _, _, rfl⟩, ⟨_, _, _, rfl⟩, ⟨_, _, _, rfl⟩⟩
        refine Below.trans HBW2.out ?_
        repeat' (first | exact Below.refl _ _ | apply Below.drew | apply Below.setCell | apply Below.alloc | (simp; done) | omega | (simp; omega))
  · have HOK := Lib.hid (HBAD.out (stepS_none_2 hlf0 (by omega)))
    have h2I : (k : Int) < 2 := by omega
    rcases hjk with k15 | k16
    · obtain ⟨A0, e0, rfl⟩ := HX2.out.r0.form
      obtain ⟨A1, e1, rfl⟩ := HX2.out.r1.form
      obtain ⟨A2, e2, rfl⟩ := HX2.out.r2.form
      obtain ⟨hr0, hr1, hr2, hrf0, hrf1, hrf2, hrs⟩ := cells3 HR2.out
      go_wp2
      refine bodyPost_ret (v := .tuple #[.agg #[.slice A0 X.f.length e0, .slice A1 X.i.length e1, .slice A2 X.o.length e2], .bool false]) (by simp [results, Try.results94, go_sem, hr0, hr1, hr2]) rfl ?_
      refine ⟨.slice A0 X.f.length e0, .slice A1 X.i.length e1, .slice A2 X.o.length e2, by rw [HOK.out], ?_, fun h => absurd (HOK.out.symm.trans h) (by simp), ⟨_, _, _, rfl⟩, ⟨_, _, _, rfl⟩, ⟨_, _, _, rfl⟩⟩
      refine Below.trans HBW2.out ?_
      repeat' (first | exact Below.refl _ _ | apply Below.drew | apply Below.setCell | apply Below.alloc | (simp; done) | omega | (simp; omega))
    · obtain ⟨A0, e0, rfl⟩ := HX2.out.r0.form
      obtain ⟨A1, e1, rfl⟩ := HX2.out.r1.form
      obtain ⟨A2, e2, rfl⟩ := HX2.out.r2.form
      obtain ⟨hr0, hr1, hr2, hrf0, hrf1, hrf2, hrs⟩ := cells3 HR2.out
      go_wp2
      refine bodyPost_ret (v := .tuple #[.agg #[.slice A0 X.f.length e0, .slice A1 X.i.length e1, .slice A2 X.o.length e2], .bool false]) (by simp [results, Try.results94, go_sem, hr0, hr1, hr2]) rfl ?_
      refine ⟨.slice A0 X.f.length e0, .slice A1 X.i.length e1, .slice A2 X.o.length e2, by rw [HOK.out], ?_, fun h => absurd (HOK.out.symm.trans h) (by simp), ⟨_, _, _, rfl⟩, ⟨_, _, _, rfl⟩, ⟨_, _, _, rfl⟩⟩
      refine Below.trans HBW2.out ?_
      repeat' (first | exact Below.refl _ _ | apply Below.drew | apply Below.setCell | apply Below.alloc | (simp; done) | omega | (simp; omega))
end Go.Proofs.Ytiealgnmhjebeaa
