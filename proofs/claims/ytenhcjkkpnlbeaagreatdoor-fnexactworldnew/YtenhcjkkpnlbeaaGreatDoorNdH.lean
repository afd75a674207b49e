/-
  Lists of nodes held against their marks, by the laws' own functions. No condition but their size.
-/
import Derived.Test.YtenhcjkkpnlbeaaGreatDoorNdM
set_option linter.unusedVariables false
set_option linter.unusedSimpArgs false
set_option maxRecDepth 100000
set_option maxHeartbeats 8000000
namespace Go.Proofs.YtenhcjkkpnlbeaaGreatDoor.Gen
open ChangeShapes WideShapes ChangeAt RowKit Joins Deep Base
theorem Qc8 {α : Type} [Cel α] {w : World} {a : Option Addr} {l : List α} {n : Nat} (h : At w a l) (hn : l.length = n) : n = 0 ∨ ∃ b o, a = some ⟨b, o, none⟩ /\ b < w.heap.size /\ In w b o l := h.imp (fun e => by rw [← hn, e]; rfl) id
theorem hk1 (x : PC) (hf : PFit x) (z : Int) (hz : 1 <= z) (hc : z + (cN x : Int) <= 45000000) (W : World) (h : PAt W (mN x z)) : Calls Tryz.prog 63 #[.slice x.A x.l.length x.cap, .int .i64 (z + 1 + 1 + 1 + 1 + 1)] W fun e w' => e = .returned (.int .i64 (rz1 x z)) /\ Below W.heap.size W w' := by
 have l1 := hf.ll
 have l2 := hf.vl
 have l3 := hf.nl
 have l4 := hf.pl
 have l5 := hf.dl
 have l6 := hf.xf.dl
 have l7 := hf.yf.dl
 obtain ⟨⟨b1, b1'⟩, ⟨b2, b2'⟩, ⟨b3, b3'⟩, ⟨b4, b4'⟩, ⟨b5, b5'⟩, ⟨b6, b6'⟩, ⟨b7, b7'⟩, ⟨b8, b8'⟩, ⟨b9, b9'⟩, ⟨b10, b10'⟩, ⟨b11, b11'⟩, ⟨b12, b12'⟩, ⟨b13, b13'⟩, ⟨b14, b14'⟩, ⟨b15, b15'⟩, ⟨b16, b16'⟩, -, n1, n2, n3, n4, n5, n6, n7, n8, n9, n10, n11, n12, n13, n14, n15, n16⟩ := r_le x z hz hc
 exact Qe5 x.A x.cap x.l.length _ (by omega) (by omega) (by omega) W (Qc8 h.la (Qbg _ _))
theorem hk2 (x : PC) (hf : PFit x) (z : Int) (hz : 1 <= z) (hc : z + (cN x : Int) <= 45000000) (W : World) (h : PAt W (mN x z)) : Calls Tryz.prog 64 #[.slice x.x.rA x.x.rs.length x.x.rc, .int .i64 (rz1 x z)] W fun e w' => e = .returned (.int .i64 (rz2 x z)) /\ Below W.heap.size W w' := by
 have l1 := hf.ll
 have l2 := hf.vl
 have l3 := hf.nl
 have l4 := hf.pl
 have l5 := hf.dl
 have l6 := hf.xf.dl
 have l7 := hf.yf.dl
 obtain ⟨⟨b1, b1'⟩, ⟨b2, b2'⟩, ⟨b3, b3'⟩, ⟨b4, b4'⟩, ⟨b5, b5'⟩, ⟨b6, b6'⟩, ⟨b7, b7'⟩, ⟨b8, b8'⟩, ⟨b9, b9'⟩, ⟨b10, b10'⟩, ⟨b11, b11'⟩, ⟨b12, b12'⟩, ⟨b13, b13'⟩, ⟨b14, b14'⟩, ⟨b15, b15'⟩, ⟨b16, b16'⟩, -, n1, n2, n3, n4, n5, n6, n7, n8, n9, n10, n11, n12, n13, n14, n15, n16⟩ := r_le x z hz hc
 exact Qgf x.x.rA x.x.rc x.x.rs _ (by omega) (by omega) (by omega) hf.xf.rl hf.xf.ri W h.xa.ra h.xa.re
theorem hk3 (x : PC) (hf : PFit x) (z : Int) (hz : 1 <= z) (hc : z + (cN x : Int) <= 45000000) (W : World) (h : PAt W (mN x z)) : Calls Tryz.prog 65 #[.slice x.x.mA x.x.ms.length x.x.mc, .int .i64 (rz2 x z)] W fun e w' => e = .returned (.int .i64 (rz3 x z)) /\ Below W.heap.size W w' := by
 have l1 := hf.ll
 have l2 := hf.vl
 have l3 := hf.nl
 have l4 := hf.pl
 have l5 := hf.dl
 have l6 := hf.xf.dl
 have l7 := hf.yf.dl
 obtain ⟨⟨b1, b1'⟩, ⟨b2, b2'⟩, ⟨b3, b3'⟩, ⟨b4, b4'⟩, ⟨b5, b5'⟩, ⟨b6, b6'⟩, ⟨b7, b7'⟩, ⟨b8, b8'⟩, ⟨b9, b9'⟩, ⟨b10, b10'⟩, ⟨b11, b11'⟩, ⟨b12, b12'⟩, ⟨b13, b13'⟩, ⟨b14, b14'⟩, ⟨b15, b15'⟩, ⟨b16, b16'⟩, -, n1, n2, n3, n4, n5, n6, n7, n8, n9, n10, n11, n12, n13, n14, n15, n16⟩ := r_le x z hz hc
 exact Qe3 x.x.mA x.x.mc x.x.ms _ (by omega) (by omega) (by omega) hf.xf.ml hf.xf.mi W h.xa.ma h.xa.me
theorem hk4 (x : PC) (hf : PFit x) (z : Int) (hz : 1 <= z) (hc : z + (cN x : Int) <= 45000000) (W : World) (h : PAt W (mN x z)) : Calls Tryz.prog 66 #[.slice x.x.gA x.x.gs.length x.x.gc, .int .i64 (rz3 x z)] W fun e w' => e = .returned (.int .i64 (rz4 x z)) /\ Below W.heap.size W w' := by
 have l1 := hf.ll
 have l2 := hf.vl
 have l3 := hf.nl
 have l4 := hf.pl
 have l5 := hf.dl
 have l6 := hf.xf.dl
 have l7 := hf.yf.dl
 obtain ⟨⟨b1, b1'⟩, ⟨b2, b2'⟩, ⟨b3, b3'⟩, ⟨b4, b4'⟩, ⟨b5, b5'⟩, ⟨b6, b6'⟩, ⟨b7, b7'⟩, ⟨b8, b8'⟩, ⟨b9, b9'⟩, ⟨b10, b10'⟩, ⟨b11, b11'⟩, ⟨b12, b12'⟩, ⟨b13, b13'⟩, ⟨b14, b14'⟩, ⟨b15, b15'⟩, ⟨b16, b16'⟩, -, n1, n2, n3, n4, n5, n6, n7, n8, n9, n10, n11, n12, n13, n14, n15, n16⟩ := r_le x z hz hc
 exact Qe4 x.x.gA x.x.gc x.x.gs _ (by omega) (by omega) (by omega) hf.xf.gl hf.xf.gi W h.xa.ga h.xa.ge
theorem hk5 (x : PC) (hf : PFit x) (z : Int) (hz : 1 <= z) (hc : z + (cN x : Int) <= 45000000) (W : World) (h : PAt W (mN x z)) : Calls Tryz.prog 29 #[.slice x.x.dA x.x.ds.length x.x.dc, .int .i64 (rz4 x z + 1)] W fun e w' => e = .returned (.int .i64 (rz5 x z)) /\ Below W.heap.size W w' := by
 have l1 := hf.ll
 have l2 := hf.vl
 have l3 := hf.nl
 have l4 := hf.pl
 have l5 := hf.dl
 have l6 := hf.xf.dl
 have l7 := hf.yf.dl
 obtain ⟨⟨b1, b1'⟩, ⟨b2, b2'⟩, ⟨b3, b3'⟩, ⟨b4, b4'⟩, ⟨b5, b5'⟩, ⟨b6, b6'⟩, ⟨b7, b7'⟩, ⟨b8, b8'⟩, ⟨b9, b9'⟩, ⟨b10, b10'⟩, ⟨b11, b11'⟩, ⟨b12, b12'⟩, ⟨b13, b13'⟩, ⟨b14, b14'⟩, ⟨b15, b15'⟩, ⟨b16, b16'⟩, -, n1, n2, n3, n4, n5, n6, n7, n8, n9, n10, n11, n12, n13, n14, n15, n16⟩ := r_le x z hz hc
 exact Qcj x.x.dA x.x.dc x.x.ds.length _ (by omega) (by omega) (by omega) W (Qc8 h.xa.da (Qat _ _))
theorem hk6 (x : PC) (hf : PFit x) (z : Int) (hz : 1 <= z) (hc : z + (cN x : Int) <= 45000000) (W : World) (h : PAt W (mN x z)) : Calls Tryz.prog 67 #[.slice x.x.lA x.x.ls.length x.x.lc, .int .i64 (rz5 x z)] W fun e w' => e = .returned (.int .i64 (rz6 x z)) /\ Below W.heap.size W w' := by
 have l1 := hf.ll
 have l2 := hf.vl
 have l3 := hf.nl
 have l4 := hf.pl
 have l5 := hf.dl
 have l6 := hf.xf.dl
 have l7 := hf.yf.dl
 obtain ⟨⟨b1, b1'⟩, ⟨b2, b2'⟩, ⟨b3, b3'⟩, ⟨b4, b4'⟩, ⟨b5, b5'⟩, ⟨b6, b6'⟩, ⟨b7, b7'⟩, ⟨b8, b8'⟩, ⟨b9, b9'⟩, ⟨b10, b10'⟩, ⟨b11, b11'⟩, ⟨b12, b12'⟩, ⟨b13, b13'⟩, ⟨b14, b14'⟩, ⟨b15, b15'⟩, ⟨b16, b16'⟩, -, n1, n2, n3, n4, n5, n6, n7, n8, n9, n10, n11, n12, n13, n14, n15, n16⟩ := r_le x z hz hc
 exact Qen x.x.lA x.x.lc x.x.ls.length _ (by omega) (by omega) hf.xf.ll W (Qc8 h.xa.la (Qbq _ _))
theorem hk7 (x : PC) (hf : PFit x) (z : Int) (hz : 1 <= z) (hc : z + (cN x : Int) <= 45000000) (W : World) (h : PAt W (mN x z)) : Calls Tryz.prog 68 #[.slice x.vA x.vs.length x.vc, .int .i64 (rz6 x z + 1)] W fun e w' => e = .returned (.int .i64 (rz7 x z)) /\ Below W.heap.size W w' := by
 have l1 := hf.ll
 have l2 := hf.vl
 have l3 := hf.nl
 have l4 := hf.pl
 have l5 := hf.dl
 have l6 := hf.xf.dl
 have l7 := hf.yf.dl
 obtain ⟨⟨b1, b1'⟩, ⟨b2, b2'⟩, ⟨b3, b3'⟩, ⟨b4, b4'⟩, ⟨b5, b5'⟩, ⟨b6, b6'⟩, ⟨b7, b7'⟩, ⟨b8, b8'⟩, ⟨b9, b9'⟩, ⟨b10, b10'⟩, ⟨b11, b11'⟩, ⟨b12, b12'⟩, ⟨b13, b13'⟩, ⟨b14, b14'⟩, ⟨b15, b15'⟩, ⟨b16, b16'⟩, -, n1, n2, n3, n4, n5, n6, n7, n8, n9, n10, n11, n12, n13, n14, n15, n16⟩ := r_le x z hz hc
 exact Qll x.vA x.vc x.vs.length _ (by omega) (by omega) (by omega) W (Qc8 h.va (Qbx _ _))
theorem hk8 (x : PC) (hf : PFit x) (z : Int) (hz : 1 <= z) (hc : z + (cN x : Int) <= 45000000) (W : World) (h : PAt W (mN x z)) : Calls Tryz.prog 29 #[.slice x.nA x.ns.length x.nc, .int .i64 (rz7 x z)] W fun e w' => e = .returned (.int .i64 (rz8 x z)) /\ Below W.heap.size W w' := by
 have l1 := hf.ll
 have l2 := hf.vl
 have l3 := hf.nl
 have l4 := hf.pl
 have l5 := hf.dl
 have l6 := hf.xf.dl
 have l7 := hf.yf.dl
 obtain ⟨⟨b1, b1'⟩, ⟨b2, b2'⟩, ⟨b3, b3'⟩, ⟨b4, b4'⟩, ⟨b5, b5'⟩, ⟨b6, b6'⟩, ⟨b7, b7'⟩, ⟨b8, b8'⟩, ⟨b9, b9'⟩, ⟨b10, b10'⟩, ⟨b11, b11'⟩, ⟨b12, b12'⟩, ⟨b13, b13'⟩, ⟨b14, b14'⟩, ⟨b15, b15'⟩, ⟨b16, b16'⟩, -, n1, n2, n3, n4, n5, n6, n7, n8, n9, n10, n11, n12, n13, n14, n15, n16⟩ := r_le x z hz hc
 exact Qcj x.nA x.nc x.ns.length _ (by omega) (by omega) (by omega) W (Qc8 h.na (Qat _ _))
theorem hk9 (x : PC) (hf : PFit x) (z : Int) (hz : 1 <= z) (hc : z + (cN x : Int) <= 45000000) (W : World) (h : PAt W (mN x z)) : Calls Tryz.prog 29 #[.slice x.pA x.ps.length x.pc, .int .i64 (rz8 x z)] W fun e w' => e = .returned (.int .i64 (rz9 x z)) /\ Below W.heap.size W w' := by
 have l1 := hf.ll
 have l2 := hf.vl
 have l3 := hf.nl
 have l4 := hf.pl
 have l5 := hf.dl
 have l6 := hf.xf.dl
 have l7 := hf.yf.dl
 obtain ⟨⟨b1, b1'⟩, ⟨b2, b2'⟩, ⟨b3, b3'⟩, ⟨b4, b4'⟩, ⟨b5, b5'⟩, ⟨b6, b6'⟩, ⟨b7, b7'⟩, ⟨b8, b8'⟩, ⟨b9, b9'⟩, ⟨b10, b10'⟩, ⟨b11, b11'⟩, ⟨b12, b12'⟩, ⟨b13, b13'⟩, ⟨b14, b14'⟩, ⟨b15, b15'⟩, ⟨b16, b16'⟩, -, n1, n2, n3, n4, n5, n6, n7, n8, n9, n10, n11, n12, n13, n14, n15, n16⟩ := r_le x z hz hc
 exact Qcj x.pA x.pc x.ps.length _ (by omega) (by omega) (by omega) W (Qc8 h.pa (Qat _ _))
theorem hk10 (x : PC) (hf : PFit x) (z : Int) (hz : 1 <= z) (hc : z + (cN x : Int) <= 45000000) (W : World) (h : PAt W (mN x z)) : Calls Tryz.prog 64 #[.slice x.y.rA x.y.rs.length x.y.rc, .int .i64 (rz9 x z + 1)] W fun e w' => e = .returned (.int .i64 (rz10 x z)) /\ Below W.heap.size W w' := by
 have l1 := hf.ll
 have l2 := hf.vl
 have l3 := hf.nl
 have l4 := hf.pl
 have l5 := hf.dl
 have l6 := hf.xf.dl
 have l7 := hf.yf.dl
 obtain ⟨⟨b1, b1'⟩, ⟨b2, b2'⟩, ⟨b3, b3'⟩, ⟨b4, b4'⟩, ⟨b5, b5'⟩, ⟨b6, b6'⟩, ⟨b7, b7'⟩, ⟨b8, b8'⟩, ⟨b9, b9'⟩, ⟨b10, b10'⟩, ⟨b11, b11'⟩, ⟨b12, b12'⟩, ⟨b13, b13'⟩, ⟨b14, b14'⟩, ⟨b15, b15'⟩, ⟨b16, b16'⟩, -, n1, n2, n3, n4, n5, n6, n7, n8, n9, n10, n11, n12, n13, n14, n15, n16⟩ := r_le x z hz hc
 exact Qgf x.y.rA x.y.rc x.y.rs _ (by omega) (by omega) (by omega) hf.yf.rl hf.yf.ri W h.ya.ra h.ya.re
theorem hk11 (x : PC) (hf : PFit x) (z : Int) (hz : 1 <= z) (hc : z + (cN x : Int) <= 45000000) (W : World) (h : PAt W (mN x z)) : Calls Tryz.prog 65 #[.slice x.y.mA x.y.ms.length x.y.mc, .int .i64 (rz10 x z)] W fun e w' => e = .returned (.int .i64 (rz11 x z)) /\ Below W.heap.size W w' := by
 have l1 := hf.ll
 have l2 := hf.vl
 have l3 := hf.nl
 have l4 := hf.pl
 have l5 := hf.dl
 have l6 := hf.xf.dl
 have l7 := hf.yf.dl
 obtain ⟨⟨b1, b1'⟩, ⟨b2, b2'⟩, ⟨b3, b3'⟩, ⟨b4, b4'⟩, ⟨b5, b5'⟩, ⟨b6, b6'⟩, ⟨b7, b7'⟩, ⟨b8, b8'⟩, ⟨b9, b9'⟩, ⟨b10, b10'⟩, ⟨b11, b11'⟩, ⟨b12, b12'⟩, ⟨b13, b13'⟩, ⟨b14, b14'⟩, ⟨b15, b15'⟩, ⟨b16, b16'⟩, -, n1, n2, n3, n4, n5, n6, n7, n8, n9, n10, n11, n12, n13, n14, n15, n16⟩ := r_le x z hz hc
 exact Qe3 x.y.mA x.y.mc x.y.ms _ (by omega) (by omega) (by omega) hf.yf.ml hf.yf.mi W h.ya.ma h.ya.me
theorem hk12 (x : PC) (hf : PFit x) (z : Int) (hz : 1 <= z) (hc : z + (cN x : Int) <= 45000000) (W : World) (h : PAt W (mN x z)) : Calls Tryz.prog 66 #[.slice x.y.gA x.y.gs.length x.y.gc, .int .i64 (rz11 x z)] W fun e w' => e = .returned (.int .i64 (rz12 x z)) /\ Below W.heap.size W w' := by
 have l1 := hf.ll
 have l2 := hf.vl
 have l3 := hf.nl
 have l4 := hf.pl
 have l5 := hf.dl
 have l6 := hf.xf.dl
 have l7 := hf.yf.dl
 obtain ⟨⟨b1, b1'⟩, ⟨b2, b2'⟩, ⟨b3, b3'⟩, ⟨b4, b4'⟩, ⟨b5, b5'⟩, ⟨b6, b6'⟩, ⟨b7, b7'⟩, ⟨b8, b8'⟩, ⟨b9, b9'⟩, ⟨b10, b10'⟩, ⟨b11, b11'⟩, ⟨b12, b12'⟩, ⟨b13, b13'⟩, ⟨b14, b14'⟩, ⟨b15, b15'⟩, ⟨b16, b16'⟩, -, n1, n2, n3, n4, n5, n6, n7, n8, n9, n10, n11, n12, n13, n14, n15, n16⟩ := r_le x z hz hc
 exact Qe4 x.y.gA x.y.gc x.y.gs _ (by omega) (by omega) (by omega) hf.yf.gl hf.yf.gi W h.ya.ga h.ya.ge
theorem hk13 (x : PC) (hf : PFit x) (z : Int) (hz : 1 <= z) (hc : z + (cN x : Int) <= 45000000) (W : World) (h : PAt W (mN x z)) : Calls Tryz.prog 29 #[.slice x.y.dA x.y.ds.length x.y.dc, .int .i64 (rz12 x z + 1)] W fun e w' => e = .returned (.int .i64 (rz13 x z)) /\ Below W.heap.size W w' := by
 have l1 := hf.ll
 have l2 := hf.vl
 have l3 := hf.nl
 have l4 := hf.pl
 have l5 := hf.dl
 have l6 := hf.xf.dl
 have l7 := hf.yf.dl
 obtain ⟨⟨b1, b1'⟩, ⟨b2, b2'⟩, ⟨b3, b3'⟩, ⟨b4, b4'⟩, ⟨b5, b5'⟩, ⟨b6, b6'⟩, ⟨b7, b7'⟩, ⟨b8, b8'⟩, ⟨b9, b9'⟩, ⟨b10, b10'⟩, ⟨b11, b11'⟩, ⟨b12, b12'⟩, ⟨b13, b13'⟩, ⟨b14, b14'⟩, ⟨b15, b15'⟩, ⟨b16, b16'⟩, -, n1, n2, n3, n4, n5, n6, n7, n8, n9, n10, n11, n12, n13, n14, n15, n16⟩ := r_le x z hz hc
 exact Qcj x.y.dA x.y.dc x.y.ds.length _ (by omega) (by omega) (by omega) W (Qc8 h.ya.da (Qat _ _))
theorem hk14 (x : PC) (hf : PFit x) (z : Int) (hz : 1 <= z) (hc : z + (cN x : Int) <= 45000000) (W : World) (h : PAt W (mN x z)) : Calls Tryz.prog 67 #[.slice x.y.lA x.y.ls.length x.y.lc, .int .i64 (rz13 x z)] W fun e w' => e = .returned (.int .i64 (rz14 x z)) /\ Below W.heap.size W w' := by
 have l1 := hf.ll
 have l2 := hf.vl
 have l3 := hf.nl
 have l4 := hf.pl
 have l5 := hf.dl
 have l6 := hf.xf.dl
 have l7 := hf.yf.dl
 obtain ⟨⟨b1, b1'⟩, ⟨b2, b2'⟩, ⟨b3, b3'⟩, ⟨b4, b4'⟩, ⟨b5, b5'⟩, ⟨b6, b6'⟩, ⟨b7, b7'⟩, ⟨b8, b8'⟩, ⟨b9, b9'⟩, ⟨b10, b10'⟩, ⟨b11, b11'⟩, ⟨b12, b12'⟩, ⟨b13, b13'⟩, ⟨b14, b14'⟩, ⟨b15, b15'⟩, ⟨b16, b16'⟩, -, n1, n2, n3, n4, n5, n6, n7, n8, n9, n10, n11, n12, n13, n14, n15, n16⟩ := r_le x z hz hc
 exact Qen x.y.lA x.y.lc x.y.ls.length _ (by omega) (by omega) hf.yf.ll W (Qc8 h.ya.la (Qbq _ _))
theorem hk15 (x : PC) (hf : PFit x) (z : Int) (hz : 1 <= z) (hc : z + (cN x : Int) <= 45000000) (W : World) (h : PAt W (mN x z)) : Calls Tryz.prog 69 #[.slice x.dA x.db.length x.dc, .int .i64 (rz14 x z)] W fun e w' => e = .returned (.int .i64 (rz15 x z)) /\ Below W.heap.size W w' := by
 have l1 := hf.ll
 have l2 := hf.vl
 have l3 := hf.nl
 have l4 := hf.pl
 have l5 := hf.dl
 have l6 := hf.xf.dl
 have l7 := hf.yf.dl
 obtain ⟨⟨b1, b1'⟩, ⟨b2, b2'⟩, ⟨b3, b3'⟩, ⟨b4, b4'⟩, ⟨b5, b5'⟩, ⟨b6, b6'⟩, ⟨b7, b7'⟩, ⟨b8, b8'⟩, ⟨b9, b9'⟩, ⟨b10, b10'⟩, ⟨b11, b11'⟩, ⟨b12, b12'⟩, ⟨b13, b13'⟩, ⟨b14, b14'⟩, ⟨b15, b15'⟩, ⟨b16, b16'⟩, -, n1, n2, n3, n4, n5, n6, n7, n8, n9, n10, n11, n12, n13, n14, n15, n16⟩ := r_le x z hz hc
 exact heldB_any x.dA x.dc x.db.length _ (by omega) (by omega) (by omega) W (Qc8 h.da (Qcl _ _))
theorem hk16 (x : PC) (hf : PFit x) (z : Int) (hz : 1 <= z) (hc : z + (cN x : Int) <= 45000000) (W : World) (h : PAt W (mN x z)) : Calls Tryz.prog 27 #[.slice x.hA x.hs.length x.hc, .int .i64 (rz15 x z + 1)] W fun e w' => e = .returned (.int .i64 (rz16 x z)) /\ Below W.heap.size W w' := by
 have l1 := hf.ll
 have l2 := hf.vl
 have l3 := hf.nl
 have l4 := hf.pl
 have l5 := hf.dl
 have l6 := hf.xf.dl
 have l7 := hf.yf.dl
 obtain ⟨⟨b1, b1'⟩, ⟨b2, b2'⟩, ⟨b3, b3'⟩, ⟨b4, b4'⟩, ⟨b5, b5'⟩, ⟨b6, b6'⟩, ⟨b7, b7'⟩, ⟨b8, b8'⟩, ⟨b9, b9'⟩, ⟨b10, b10'⟩, ⟨b11, b11'⟩, ⟨b12, b12'⟩, ⟨b13, b13'⟩, ⟨b14, b14'⟩, ⟨b15, b15'⟩, ⟨b16, b16'⟩, -, n1, n2, n3, n4, n5, n6, n7, n8, n9, n10, n11, n12, n13, n14, n15, n16⟩ := r_le x z hz hc
 exact Qge x.hA x.hc x.hs _ (by omega) (by omega) (by omega) hf.hl hf.hi W h.ha h.he
theorem mNc (x : PC) (z : Int) : Cel.cs (mN x z) = [.int .i64 z, .int .i64 (z + 1), .int .i64 (z + 1 + 1), .int .i64 (z + 1 + 1 + 1), .int .i64 (z + 1 + 1 + 1 + 1), .slice x.A x.l.length x.cap, .slice x.x.rA x.x.rs.length x.x.rc, .slice x.x.mA x.x.ms.length x.x.mc, .slice x.x.gA x.x.gs.length x.x.gc, .int .i64 (rz4 x z), .slice x.x.dA x.x.ds.length x.x.dc, .slice x.x.lA x.x.ls.length x.x.lc, .int .i64 (rz6 x z), .slice x.vA x.vs.length x.vc, .slice x.nA x.ns.length x.nc, .slice x.pA x.ps.length x.pc, .int .i64 (rz9 x z), .slice x.y.rA x.y.rs.length x.y.rc, .slice x.y.mA x.y.ms.length x.y.mc, .slice x.y.gA x.y.gs.length x.y.gc, .int .i64 (rz12 x z), .slice x.y.dA x.y.ds.length x.y.dc, .slice x.y.lA x.y.ls.length x.y.lc, .slice x.dA x.db.length x.dc, .int .i64 (rz15 x z), .slice x.hA x.hs.length x.hc] := by
 show (Qam _).toList = _
 simp only [mN, my1, my2, my3, my4, my5, my6, my7, my8, my9, my10, my11, my12, my13, my14, my15, my16, mu1, mu5, mu7, mu10, mu13, mu16, Qam, Qb7, Qdg, Qa0, Qbq, Qcl, Qbx, Qbg, Qat]
theorem Qjg (A : Option Addr) (cap : Nat) (l : List PC) (k : Int) (hk : 1 <= k) (hk' : k <= 5000000) (hc : Qak cN l <= 40000000) (hl : l.length <= 1048576) (hs : ∀ x ∈ l, PFit x) (w : World) (hA : At w A (marked mN cN l k)) (hE : EachN w (marked mN cN l k)) :
 Calls Tryz.prog 26 #[.slice A l.length cap, .int .i64 k] w fun e w' => e = .returned (.int .i64 (k + (Qak cN l : Int))) /\ Below w.heap.size w w' := by
 have HA := hidP hA
 have HE := hidP hE
 have Hs := hidP hs
 have Hc := hidP hc
 clear hA hE hs hc
 go_enter Tryz.func26, Tryz.ntmps26
 go_wp2
 go_loopw [1, 5] (fun kk i w' => ∃ (n : Nat) (z : Int), i = .int .i64 (n : Int) /\ kk = .int .i64 z /\ n <= l.length /\ 1 <= z /\ z <= 45000000 /\ Hid (z = k + (Qak cN (l.take n) : Int)) /\ Below w.heap.size w w') (fun _ i _ => l.length - (intOf i).toNat)
 case atStart => exact ⟨0, k, rfl, rfl, by omega, hk, by omega, by simp [Hid, Qak], Below.refl _ _⟩
 case round =>
  obtain ⟨n, z, rfl, rfl, hn, hz1, hz2, hz, hbl⟩ := hrel
  by_cases hlt : n < l.length
  . have hcn : Qak cN (l.take n) + cN l[n] <= 40000000 := by rw [← Qa5 cN l n hlt]; exact Nat.le_trans (Qda cN l (n + 1)) Hc.out
    have Hsn := hidP (Qa5 cN l n hlt)
    have hml : n < (marked mN cN l k).length := by rw [Qa0]; exact hlt
    obtain ⟨b, o, rfl, hbs, hIn⟩ : ∃ b o, A = some ⟨b, o, none⟩ /\ b < w.heap.size /\ In w b o (marked mN cN l k) := by
     rcases HA.out with h | h
     . rw [h] at hml; simp at hml
     . exact h
    have hg := Qd1 mN cN l n hlt k hml
    rw [← hz.out] at hg
    have HR := hidP (hIn.el n hml)
    have HP := hidP (HE.out _ (List.getElem_mem hml))
    rw [hg] at HR HP
    have HF := hidP (Hs.out _ (List.getElem_mem hlt))
    generalize l[n] = x at hcn Hsn HR HP HF
    rw [mNc] at HR
    have hzc : z + (cN x : Int) <= 45000000 := by have := hz.out; omega
    have HZc := hidP hzc
    have HRe := hidP (r_le x z hz1 hzc).2.2.2.2.2.2.2.2.2.2.2.2.2.2.2.2.1
    obtain ⟨⟨b1, b1'⟩, ⟨b2, b2'⟩, ⟨b3, b3'⟩, ⟨b4, b4'⟩, ⟨b5, b5'⟩, ⟨b6, b6'⟩, ⟨b7, b7'⟩, ⟨b8, b8'⟩, ⟨b9, b9'⟩, ⟨b10, b10'⟩, ⟨b11, b11'⟩, ⟨b12, b12'⟩, ⟨b13, b13'⟩, ⟨b14, b14'⟩, ⟨b15, b15'⟩, ⟨b16, b16'⟩, -⟩ := r_le x z hz1 hzc
    clear hcn hzc hg hml hIn
    have B0 : Below w.heap.size w wr := hbl
    have hi0 : (0 : Int) <= (n : Int) := by omega
    have hi1 : (n : Int) < (l.length : Int) := by omega
    have v1 : ¬ rz1 x z < 0 := by omega
    have v2 : ¬ rz2 x z < 0 := by omega
    have v3 : ¬ rz3 x z < 0 := by omega
    have v4 : ¬ rz4 x z < 0 := by omega
    have v5 : ¬ rz5 x z < 0 := by omega
    have v6 : ¬ rz6 x z < 0 := by omega
    have v7 : ¬ rz7 x z < 0 := by omega
    have v8 : ¬ rz8 x z < 0 := by omega
    have v9 : ¬ rz9 x z < 0 := by omega
    have v10 : ¬ rz10 x z < 0 := by omega
    have v11 : ¬ rz11 x z < 0 := by omega
    have v12 : ¬ rz12 x z < 0 := by omega
    have v13 : ¬ rz13 x z < 0 := by omega
    have v14 : ¬ rz14 x z < 0 := by omega
    have v15 : ¬ rz15 x z < 0 := by omega
    have v16 : ¬ rz16 x z < 0 := by omega
    have c0 : wr.cell? ⟨b, o + n * 26, none⟩ = some (.int .i64 z) := Qas HR.out B0 hbs 0 _ rfl
    have c1 : wr.cell? ⟨b, o + n * 26 + 1, none⟩ = some (.int .i64 (z + 1)) := Qas HR.out B0 hbs 1 _ rfl
    have c2 : wr.cell? ⟨b, o + n * 26 + 2, none⟩ = some (.int .i64 (z + 1 + 1)) := Qas HR.out B0 hbs 2 _ rfl
    have c3 : wr.cell? ⟨b, o + n * 26 + 3, none⟩ = some (.int .i64 (z + 1 + 1 + 1)) := Qas HR.out B0 hbs 3 _ rfl
    have c4 : wr.cell? ⟨b, o + n * 26 + 4, none⟩ = some (.int .i64 (z + 1 + 1 + 1 + 1)) := Qas HR.out B0 hbs 4 _ rfl
    have c5 : wr.cell? ⟨b, o + n * 26 + 5, none⟩ = some (.slice x.A x.l.length x.cap) := Qas HR.out B0 hbs 5 _ rfl
    go_wp2_with fail
    refine (hk1 x HF.out z hz1 HZc.out _ (HP.out.below (by repeat (first | exact Below.refl _ _ | assumption | refine via0 (by assumption) ?_ | refine Below.drew ?_ | refine Qab ?_ _)))).mono ?_
    rintro e w1 ⟨rfl, g1⟩
    have B1 : Below w.heap.size w w1 := via0 g1 (by repeat (first | exact Below.refl _ _ | assumption | refine via0 (by assumption) ?_ | refine Below.drew ?_ | refine Qab ?_ _))
    clear c0 c1 c2 c3 c4 c5 g1 B0
    have c6 : w1.cell? ⟨b, o + n * 26 + 6, none⟩ = some (.slice x.x.rA x.x.rs.length x.x.rc) := Qas HR.out B1 hbs 6 _ rfl
    go_wp2_with fail
    refine (hk2 x HF.out z hz1 HZc.out _ (HP.out.below (by repeat (first | exact Below.refl _ _ | assumption | refine via0 (by assumption) ?_ | refine Below.drew ?_ | refine Qab ?_ _)))).mono ?_
    rintro e w2 ⟨rfl, g2⟩
    have B2 : Below w.heap.size w w2 := via0 g2 (by repeat (first | exact Below.refl _ _ | assumption | refine via0 (by assumption) ?_ | refine Below.drew ?_ | refine Qab ?_ _))
    clear c6 g2 B1
    have c7 : w2.cell? ⟨b, o + n * 26 + 7, none⟩ = some (.slice x.x.mA x.x.ms.length x.x.mc) := Qas HR.out B2 hbs 7 _ rfl
    go_wp2_with fail
    refine (hk3 x HF.out z hz1 HZc.out _ (HP.out.below (by repeat (first | exact Below.refl _ _ | assumption | refine via0 (by assumption) ?_ | refine Below.drew ?_ | refine Qab ?_ _)))).mono ?_
    rintro e w3 ⟨rfl, g3⟩
    have B3 : Below w.heap.size w w3 := via0 g3 (by repeat (first | exact Below.refl _ _ | assumption | refine via0 (by assumption) ?_ | refine Below.drew ?_ | refine Qab ?_ _))
    clear c7 g3 B2
    have c8 : w3.cell? ⟨b, o + n * 26 + 8, none⟩ = some (.slice x.x.gA x.x.gs.length x.x.gc) := Qas HR.out B3 hbs 8 _ rfl
    go_wp2_with fail
    refine (hk4 x HF.out z hz1 HZc.out _ (HP.out.below (by repeat (first | exact Below.refl _ _ | assumption | refine via0 (by assumption) ?_ | refine Below.drew ?_ | refine Qab ?_ _)))).mono ?_
    rintro e w4 ⟨rfl, g4⟩
    have B4 : Below w.heap.size w w4 := via0 g4 (by repeat (first | exact Below.refl _ _ | assumption | refine via0 (by assumption) ?_ | refine Below.drew ?_ | refine Qab ?_ _))
    clear c8 g4 B3
    have c9 : w4.cell? ⟨b, o + n * 26 + 9, none⟩ = some (.int .i64 (rz4 x z)) := Qas HR.out B4 hbs 9 _ rfl
    have c10 : w4.cell? ⟨b, o + n * 26 + 10, none⟩ = some (.slice x.x.dA x.x.ds.length x.x.dc) := Qas HR.out B4 hbs 10 _ rfl
    go_wp2_with fail
    refine (hk5 x HF.out z hz1 HZc.out _ (HP.out.below (by repeat (first | exact Below.refl _ _ | assumption | refine via0 (by assumption) ?_ | refine Below.drew ?_ | refine Qab ?_ _)))).mono ?_
    rintro e w5 ⟨rfl, g5⟩
    have B5 : Below w.heap.size w w5 := via0 g5 (by repeat (first | exact Below.refl _ _ | assumption | refine via0 (by assumption) ?_ | refine Below.drew ?_ | refine Qab ?_ _))
    clear c9 c10 g5 B4
    have c11 : w5.cell? ⟨b, o + n * 26 + 11, none⟩ = some (.slice x.x.lA x.x.ls.length x.x.lc) := Qas HR.out B5 hbs 11 _ rfl
    go_wp2_with fail
    refine (hk6 x HF.out z hz1 HZc.out _ (HP.out.below (by repeat (first | exact Below.refl _ _ | assumption | refine via0 (by assumption) ?_ | refine Below.drew ?_ | refine Qab ?_ _)))).mono ?_
    rintro e w6 ⟨rfl, g6⟩
    have B6 : Below w.heap.size w w6 := via0 g6 (by repeat (first | exact Below.refl _ _ | assumption | refine via0 (by assumption) ?_ | refine Below.drew ?_ | refine Qab ?_ _))
    clear c11 g6 B5
    have c12 : w6.cell? ⟨b, o + n * 26 + 12, none⟩ = some (.int .i64 (rz6 x z)) := Qas HR.out B6 hbs 12 _ rfl
    have c13 : w6.cell? ⟨b, o + n * 26 + 13, none⟩ = some (.slice x.vA x.vs.length x.vc) := Qas HR.out B6 hbs 13 _ rfl
    go_wp2_with fail
    refine (hk7 x HF.out z hz1 HZc.out _ (HP.out.below (by repeat (first | exact Below.refl _ _ | assumption | refine via0 (by assumption) ?_ | refine Below.drew ?_ | refine Qab ?_ _)))).mono ?_
    rintro e w7 ⟨rfl, g7⟩
    have B7 : Below w.heap.size w w7 := via0 g7 (by repeat (first | exact Below.refl _ _ | assumption | refine via0 (by assumption) ?_ | refine Below.drew ?_ | refine Qab ?_ _))
    clear c12 c13 g7 B6
    have c14 : w7.cell? ⟨b, o + n * 26 + 14, none⟩ = some (.slice x.nA x.ns.length x.nc) := Qas HR.out B7 hbs 14 _ rfl
    go_wp2_with fail
    refine (hk8 x HF.out z hz1 HZc.out _ (HP.out.below (by repeat (first | exact Below.refl _ _ | assumption | refine via0 (by assumption) ?_ | refine Below.drew ?_ | refine Qab ?_ _)))).mono ?_
    rintro e w8 ⟨rfl, g8⟩
    have B8 : Below w.heap.size w w8 := via0 g8 (by repeat (first | exact Below.refl _ _ | assumption | refine via0 (by assumption) ?_ | refine Below.drew ?_ | refine Qab ?_ _))
    clear c14 g8 B7
    have c15 : w8.cell? ⟨b, o + n * 26 + 15, none⟩ = some (.slice x.pA x.ps.length x.pc) := Qas HR.out B8 hbs 15 _ rfl
    go_wp2_with fail
    refine (hk9 x HF.out z hz1 HZc.out _ (HP.out.below (by repeat (first | exact Below.refl _ _ | assumption | refine via0 (by assumption) ?_ | refine Below.drew ?_ | refine Qab ?_ _)))).mono ?_
    rintro e w9 ⟨rfl, g9⟩
    have B9 : Below w.heap.size w w9 := via0 g9 (by repeat (first | exact Below.refl _ _ | assumption | refine via0 (by assumption) ?_ | refine Below.drew ?_ | refine Qab ?_ _))
    clear c15 g9 B8
    have c16 : w9.cell? ⟨b, o + n * 26 + 16, none⟩ = some (.int .i64 (rz9 x z)) := Qas HR.out B9 hbs 16 _ rfl
    have c17 : w9.cell? ⟨b, o + n * 26 + 17, none⟩ = some (.slice x.y.rA x.y.rs.length x.y.rc) := Qas HR.out B9 hbs 17 _ rfl
    go_wp2_with fail
    refine (hk10 x HF.out z hz1 HZc.out _ (HP.out.below (by repeat (first | exact Below.refl _ _ | assumption | refine via0 (by assumption) ?_ | refine Below.drew ?_ | refine Qab ?_ _)))).mono ?_
    rintro e w10 ⟨rfl, g10⟩
    have B10 : Below w.heap.size w w10 := via0 g10 (by repeat (first | exact Below.refl _ _ | assumption | refine via0 (by assumption) ?_ | refine Below.drew ?_ | refine Qab ?_ _))
    clear c16 c17 g10 B9
    have c18 : w10.cell? ⟨b, o + n * 26 + 18, none⟩ = some (.slice x.y.mA x.y.ms.length x.y.mc) := Qas HR.out B10 hbs 18 _ rfl
    go_wp2_with fail
    refine (hk11 x HF.out z hz1 HZc.out _ (HP.out.below (by repeat (first | exact Below.refl _ _ | assumption | refine via0 (by assumption) ?_ | refine Below.drew ?_ | refine Qab ?_ _)))).mono ?_
    rintro e w11 ⟨rfl, g11⟩
    have B11 : Below w.heap.size w w11 := via0 g11 (by repeat (first | exact Below.refl _ _ | assumption | refine via0 (by assumption) ?_ | refine Below.drew ?_ | refine Qab ?_ _))
    clear c18 g11 B10
    have c19 : w11.cell? ⟨b, o + n * 26 + 19, none⟩ = some (.slice x.y.gA x.y.gs.length x.y.gc) := Qas HR.out B11 hbs 19 _ rfl
    go_wp2_with fail
    refine (hk12 x HF.out z hz1 HZc.out _ (HP.out.below (by repeat (first | exact Below.refl _ _ | assumption | refine via0 (by assumption) ?_ | refine Below.drew ?_ | refine Qab ?_ _)))).mono ?_
    rintro e w12 ⟨rfl, g12⟩
    have B12 : Below w.heap.size w w12 := via0 g12 (by repeat (first | exact Below.refl _ _ | assumption | refine via0 (by assumption) ?_ | refine Below.drew ?_ | refine Qab ?_ _))
    clear c19 g12 B11
    have c20 : w12.cell? ⟨b, o + n * 26 + 20, none⟩ = some (.int .i64 (rz12 x z)) := Qas HR.out B12 hbs 20 _ rfl
    have c21 : w12.cell? ⟨b, o + n * 26 + 21, none⟩ = some (.slice x.y.dA x.y.ds.length x.y.dc) := Qas HR.out B12 hbs 21 _ rfl
    go_wp2_with fail
    refine (hk13 x HF.out z hz1 HZc.out _ (HP.out.below (by repeat (first | exact Below.refl _ _ | assumption | refine via0 (by assumption) ?_ | refine Below.drew ?_ | refine Qab ?_ _)))).mono ?_
    rintro e w13 ⟨rfl, g13⟩
    have B13 : Below w.heap.size w w13 := via0 g13 (by repeat (first | exact Below.refl _ _ | assumption | refine via0 (by assumption) ?_ | refine Below.drew ?_ | refine Qab ?_ _))
    clear c20 c21 g13 B12
    have c22 : w13.cell? ⟨b, o + n * 26 + 22, none⟩ = some (.slice x.y.lA x.y.ls.length x.y.lc) := Qas HR.out B13 hbs 22 _ rfl
    go_wp2_with fail
    refine (hk14 x HF.out z hz1 HZc.out _ (HP.out.below (by repeat (first | exact Below.refl _ _ | assumption | refine via0 (by assumption) ?_ | refine Below.drew ?_ | refine Qab ?_ _)))).mono ?_
    rintro e w14 ⟨rfl, g14⟩
    have B14 : Below w.heap.size w w14 := via0 g14 (by repeat (first | exact Below.refl _ _ | assumption | refine via0 (by assumption) ?_ | refine Below.drew ?_ | refine Qab ?_ _))
    clear c22 g14 B13
    have c23 : w14.cell? ⟨b, o + n * 26 + 23, none⟩ = some (.slice x.dA x.db.length x.dc) := Qas HR.out B14 hbs 23 _ rfl
    go_wp2_with fail
    refine (hk15 x HF.out z hz1 HZc.out _ (HP.out.below (by repeat (first | exact Below.refl _ _ | assumption | refine via0 (by assumption) ?_ | refine Below.drew ?_ | refine Qab ?_ _)))).mono ?_
    rintro e w15 ⟨rfl, g15⟩
    have B15 : Below w.heap.size w w15 := via0 g15 (by repeat (first | exact Below.refl _ _ | assumption | refine via0 (by assumption) ?_ | refine Below.drew ?_ | refine Qab ?_ _))
    clear c23 g15 B14
    have c24 : w15.cell? ⟨b, o + n * 26 + 24, none⟩ = some (.int .i64 (rz15 x z)) := Qas HR.out B15 hbs 24 _ rfl
    have c25 : w15.cell? ⟨b, o + n * 26 + 25, none⟩ = some (.slice x.hA x.hs.length x.hc) := Qas HR.out B15 hbs 25 _ rfl
    go_wp2_with fail
    refine (hk16 x HF.out z hz1 HZc.out _ (HP.out.below (by repeat (first | exact Below.refl _ _ | assumption | refine via0 (by assumption) ?_ | refine Below.drew ?_ | refine Qab ?_ _)))).mono ?_
    rintro e w16 ⟨rfl, g16⟩
    have B16 : Below w.heap.size w w16 := via0 g16 (by repeat (first | exact Below.refl _ _ | assumption | refine via0 (by assumption) ?_ | refine Below.drew ?_ | refine Qab ?_ _))
    clear c24 c25 g16 B15
    go_wp2
    have hz' := hz.out
    have hs' := Hsn.out
    have hr' := HRe.out
    have hcc := HZc.out
    refine ⟨⟨n + 1, rz16 x z, by go_num, rfl, by omega, by omega, by omega, ?_, B16⟩, by simp [intOf]; omega⟩
    show _ = _
    rw [hs', hr', hz']; push_cast; omega
  . obtain rfl : n = l.length := by omega
    go_wp2
    go_ret
    have e := hz.out
    rw [Qcr cN l _ (Nat.le_refl _)] at e
    subst e
    exact ⟨rfl, hbl⟩
end Go.Proofs.YtenhcjkkpnlbeaaGreatDoor.Gen
