/-
  isOp at this seat: an Op is right when it has a name. No condition.
-/
import Derived.Test.YtbcbdhjeebcleaaGreatDoorCmdParts
set_option linter.unusedVariables false
set_option linter.unusedSimpArgs false
set_option maxRecDepth 100000
set_option maxHeartbeats 8000000
namespace Go.Proofs.YtbcbdhjeebcleaaGreatDoor.CmdOk
open ChangeShapes WideShapes ChangeAt RowKit Joins Base
theorem op_ways (op : Int) : inB op 0 10 = false ∨ op = 0 ∨ op = 1 ∨ op = 2 ∨ op = 3 ∨ op = 4 ∨ op = 5 ∨ op = 6 ∨ op = 7 ∨ op = 8 ∨ op = 9 ∨ op = 10 := by
 simp only [inB, decide_eq_false_iff_not]
 omega
theorem Qe0 (w : World) : (Op.equalIn 10000 260 (.agg #[.string ⟨#[110, 111, 110, 101]⟩, .string ⟨#[112, 117, 116]⟩, .string ⟨#[103, 101, 116]⟩, .string ⟨#[101, 112, 111, 99, 104]⟩, .string ⟨#[106, 111, 105, 110]⟩, .string ⟨#[108, 101, 97, 118, 101]⟩, .string ⟨#[109, 97, 114, 107]⟩, .string ⟨#[114, 101, 97, 100]⟩, .string ⟨#[116, 105, 99, 107]⟩, .string ⟨#[116, 114, 105, 109]⟩, .string ⟨#[112, 97, 99, 107]⟩]) (.agg #[.string ⟨#[110, 111, 110, 101]⟩, .string ⟨#[112, 117, 116]⟩, .string ⟨#[103, 101, 116]⟩, .string ⟨#[101, 112, 111, 99, 104]⟩, .string ⟨#[106, 111, 105, 110]⟩, .string ⟨#[108, 101, 97, 118, 101]⟩, .string ⟨#[109, 97, 114, 107]⟩, .string ⟨#[114, 101, 97, 100]⟩, .string ⟨#[116, 105, 99, 107]⟩, .string ⟨#[116, 114, 105, 109]⟩, .string ⟨#[112, 97, 99, 107]⟩])).run Tryz.prog w = .ok true w := by kernel_rfl
theorem Qgr (w : World) : (Op.equalIn 10000 260 (.agg #[.string ⟨#[110, 111, 110, 101]⟩, .string ⟨#[110, 111, 110, 101]⟩, .string ⟨#[103, 101, 116]⟩, .string ⟨#[101, 112, 111, 99, 104]⟩, .string ⟨#[106, 111, 105, 110]⟩, .string ⟨#[108, 101, 97, 118, 101]⟩, .string ⟨#[109, 97, 114, 107]⟩, .string ⟨#[114, 101, 97, 100]⟩, .string ⟨#[116, 105, 99, 107]⟩, .string ⟨#[116, 114, 105, 109]⟩, .string ⟨#[112, 97, 99, 107]⟩]) (.agg #[.string ⟨#[110, 111, 110, 101]⟩, .string ⟨#[112, 117, 116]⟩, .string ⟨#[103, 101, 116]⟩, .string ⟨#[101, 112, 111, 99, 104]⟩, .string ⟨#[106, 111, 105, 110]⟩, .string ⟨#[108, 101, 97, 118, 101]⟩, .string ⟨#[109, 97, 114, 107]⟩, .string ⟨#[114, 101, 97, 100]⟩, .string ⟨#[116, 105, 99, 107]⟩, .string ⟨#[116, 114, 105, 109]⟩, .string ⟨#[112, 97, 99, 107]⟩])).run Tryz.prog w = .ok false w := by kernel_rfl
theorem Qgq (w : World) : (Op.equalIn 10000 260 (.agg #[.string ⟨#[110, 111, 110, 101]⟩, .string ⟨#[112, 117, 116]⟩, .string ⟨#[110, 111, 110, 101]⟩, .string ⟨#[101, 112, 111, 99, 104]⟩, .string ⟨#[106, 111, 105, 110]⟩, .string ⟨#[108, 101, 97, 118, 101]⟩, .string ⟨#[109, 97, 114, 107]⟩, .string ⟨#[114, 101, 97, 100]⟩, .string ⟨#[116, 105, 99, 107]⟩, .string ⟨#[116, 114, 105, 109]⟩, .string ⟨#[112, 97, 99, 107]⟩]) (.agg #[.string ⟨#[110, 111, 110, 101]⟩, .string ⟨#[112, 117, 116]⟩, .string ⟨#[103, 101, 116]⟩, .string ⟨#[101, 112, 111, 99, 104]⟩, .string ⟨#[106, 111, 105, 110]⟩, .string ⟨#[108, 101, 97, 118, 101]⟩, .string ⟨#[109, 97, 114, 107]⟩, .string ⟨#[114, 101, 97, 100]⟩, .string ⟨#[116, 105, 99, 107]⟩, .string ⟨#[116, 114, 105, 109]⟩, .string ⟨#[112, 97, 99, 107]⟩])).run Tryz.prog w = .ok false w := by kernel_rfl
theorem Qgp (w : World) : (Op.equalIn 10000 260 (.agg #[.string ⟨#[110, 111, 110, 101]⟩, .string ⟨#[112, 117, 116]⟩, .string ⟨#[103, 101, 116]⟩, .string ⟨#[110, 111, 110, 101]⟩, .string ⟨#[106, 111, 105, 110]⟩, .string ⟨#[108, 101, 97, 118, 101]⟩, .string ⟨#[109, 97, 114, 107]⟩, .string ⟨#[114, 101, 97, 100]⟩, .string ⟨#[116, 105, 99, 107]⟩, .string ⟨#[116, 114, 105, 109]⟩, .string ⟨#[112, 97, 99, 107]⟩]) (.agg #[.string ⟨#[110, 111, 110, 101]⟩, .string ⟨#[112, 117, 116]⟩, .string ⟨#[103, 101, 116]⟩, .string ⟨#[101, 112, 111, 99, 104]⟩, .string ⟨#[106, 111, 105, 110]⟩, .string ⟨#[108, 101, 97, 118, 101]⟩, .string ⟨#[109, 97, 114, 107]⟩, .string ⟨#[114, 101, 97, 100]⟩, .string ⟨#[116, 105, 99, 107]⟩, .string ⟨#[116, 114, 105, 109]⟩, .string ⟨#[112, 97, 99, 107]⟩])).run Tryz.prog w = .ok false w := by kernel_rfl
theorem Qgo (w : World) : (Op.equalIn 10000 260 (.agg #[.string ⟨#[110, 111, 110, 101]⟩, .string ⟨#[112, 117, 116]⟩, .string ⟨#[103, 101, 116]⟩, .string ⟨#[101, 112, 111, 99, 104]⟩, .string ⟨#[110, 111, 110, 101]⟩, .string ⟨#[108, 101, 97, 118, 101]⟩, .string ⟨#[109, 97, 114, 107]⟩, .string ⟨#[114, 101, 97, 100]⟩, .string ⟨#[116, 105, 99, 107]⟩, .string ⟨#[116, 114, 105, 109]⟩, .string ⟨#[112, 97, 99, 107]⟩]) (.agg #[.string ⟨#[110, 111, 110, 101]⟩, .string ⟨#[112, 117, 116]⟩, .string ⟨#[103, 101, 116]⟩, .string ⟨#[101, 112, 111, 99, 104]⟩, .string ⟨#[106, 111, 105, 110]⟩, .string ⟨#[108, 101, 97, 118, 101]⟩, .string ⟨#[109, 97, 114, 107]⟩, .string ⟨#[114, 101, 97, 100]⟩, .string ⟨#[116, 105, 99, 107]⟩, .string ⟨#[116, 114, 105, 109]⟩, .string ⟨#[112, 97, 99, 107]⟩])).run Tryz.prog w = .ok false w := by kernel_rfl
theorem Qgn (w : World) : (Op.equalIn 10000 260 (.agg #[.string ⟨#[110, 111, 110, 101]⟩, .string ⟨#[112, 117, 116]⟩, .string ⟨#[103, 101, 116]⟩, .string ⟨#[101, 112, 111, 99, 104]⟩, .string ⟨#[106, 111, 105, 110]⟩, .string ⟨#[110, 111, 110, 101]⟩, .string ⟨#[109, 97, 114, 107]⟩, .string ⟨#[114, 101, 97, 100]⟩, .string ⟨#[116, 105, 99, 107]⟩, .string ⟨#[116, 114, 105, 109]⟩, .string ⟨#[112, 97, 99, 107]⟩]) (.agg #[.string ⟨#[110, 111, 110, 101]⟩, .string ⟨#[112, 117, 116]⟩, .string ⟨#[103, 101, 116]⟩, .string ⟨#[101, 112, 111, 99, 104]⟩, .string ⟨#[106, 111, 105, 110]⟩, .string ⟨#[108, 101, 97, 118, 101]⟩, .string ⟨#[109, 97, 114, 107]⟩, .string ⟨#[114, 101, 97, 100]⟩, .string ⟨#[116, 105, 99, 107]⟩, .string ⟨#[116, 114, 105, 109]⟩, .string ⟨#[112, 97, 99, 107]⟩])).run Tryz.prog w = .ok false w := by kernel_rfl
theorem Qgm (w : World) : (Op.equalIn 10000 260 (.agg #[.string ⟨#[110, 111, 110, 101]⟩, .string ⟨#[112, 117, 116]⟩, .string ⟨#[103, 101, 116]⟩, .string ⟨#[101, 112, 111, 99, 104]⟩, .string ⟨#[106, 111, 105, 110]⟩, .string ⟨#[108, 101, 97, 118, 101]⟩, .string ⟨#[110, 111, 110, 101]⟩, .string ⟨#[114, 101, 97, 100]⟩, .string ⟨#[116, 105, 99, 107]⟩, .string ⟨#[116, 114, 105, 109]⟩, .string ⟨#[112, 97, 99, 107]⟩]) (.agg #[.string ⟨#[110, 111, 110, 101]⟩, .string ⟨#[112, 117, 116]⟩, .string ⟨#[103, 101, 116]⟩, .string ⟨#[101, 112, 111, 99, 104]⟩, .string ⟨#[106, 111, 105, 110]⟩, .string ⟨#[108, 101, 97, 118, 101]⟩, .string ⟨#[109, 97, 114, 107]⟩, .string ⟨#[114, 101, 97, 100]⟩, .string ⟨#[116, 105, 99, 107]⟩, .string ⟨#[116, 114, 105, 109]⟩, .string ⟨#[112, 97, 99, 107]⟩])).run Tryz.prog w = .ok false w := by kernel_rfl
theorem Qgl (w : World) : (Op.equalIn 10000 260 (.agg #[.string ⟨#[110, 111, 110, 101]⟩, .string ⟨#[112, 117, 116]⟩, .string ⟨#[103, 101, 116]⟩, .string ⟨#[101, 112, 111, 99, 104]⟩, .string ⟨#[106, 111, 105, 110]⟩, .string ⟨#[108, 101, 97, 118, 101]⟩, .string ⟨#[109, 97, 114, 107]⟩, .string ⟨#[110, 111, 110, 101]⟩, .string ⟨#[116, 105, 99, 107]⟩, .string ⟨#[116, 114, 105, 109]⟩, .string ⟨#[112, 97, 99, 107]⟩]) (.agg #[.string ⟨#[110, 111, 110, 101]⟩, .string ⟨#[112, 117, 116]⟩, .string ⟨#[103, 101, 116]⟩, .string ⟨#[101, 112, 111, 99, 104]⟩, .string ⟨#[106, 111, 105, 110]⟩, .string ⟨#[108, 101, 97, 118, 101]⟩, .string ⟨#[109, 97, 114, 107]⟩, .string ⟨#[114, 101, 97, 100]⟩, .string ⟨#[116, 105, 99, 107]⟩, .string ⟨#[116, 114, 105, 109]⟩, .string ⟨#[112, 97, 99, 107]⟩])).run Tryz.prog w = .ok false w := by kernel_rfl
theorem Qgk (w : World) : (Op.equalIn 10000 260 (.agg #[.string ⟨#[110, 111, 110, 101]⟩, .string ⟨#[112, 117, 116]⟩, .string ⟨#[103, 101, 116]⟩, .string ⟨#[101, 112, 111, 99, 104]⟩, .string ⟨#[106, 111, 105, 110]⟩, .string ⟨#[108, 101, 97, 118, 101]⟩, .string ⟨#[109, 97, 114, 107]⟩, .string ⟨#[114, 101, 97, 100]⟩, .string ⟨#[110, 111, 110, 101]⟩, .string ⟨#[116, 114, 105, 109]⟩, .string ⟨#[112, 97, 99, 107]⟩]) (.agg #[.string ⟨#[110, 111, 110, 101]⟩, .string ⟨#[112, 117, 116]⟩, .string ⟨#[103, 101, 116]⟩, .string ⟨#[101, 112, 111, 99, 104]⟩, .string ⟨#[106, 111, 105, 110]⟩, .string ⟨#[108, 101, 97, 118, 101]⟩, .string ⟨#[109, 97, 114, 107]⟩, .string ⟨#[114, 101, 97, 100]⟩, .string ⟨#[116, 105, 99, 107]⟩, .string ⟨#[116, 114, 105, 109]⟩, .string ⟨#[112, 97, 99, 107]⟩])).run Tryz.prog w = .ok false w := by kernel_rfl
theorem Qgj (w : World) : (Op.equalIn 10000 260 (.agg #[.string ⟨#[110, 111, 110, 101]⟩, .string ⟨#[112, 117, 116]⟩, .string ⟨#[103, 101, 116]⟩, .string ⟨#[101, 112, 111, 99, 104]⟩, .string ⟨#[106, 111, 105, 110]⟩, .string ⟨#[108, 101, 97, 118, 101]⟩, .string ⟨#[109, 97, 114, 107]⟩, .string ⟨#[114, 101, 97, 100]⟩, .string ⟨#[116, 105, 99, 107]⟩, .string ⟨#[110, 111, 110, 101]⟩, .string ⟨#[112, 97, 99, 107]⟩]) (.agg #[.string ⟨#[110, 111, 110, 101]⟩, .string ⟨#[112, 117, 116]⟩, .string ⟨#[103, 101, 116]⟩, .string ⟨#[101, 112, 111, 99, 104]⟩, .string ⟨#[106, 111, 105, 110]⟩, .string ⟨#[108, 101, 97, 118, 101]⟩, .string ⟨#[109, 97, 114, 107]⟩, .string ⟨#[114, 101, 97, 100]⟩, .string ⟨#[116, 105, 99, 107]⟩, .string ⟨#[116, 114, 105, 109]⟩, .string ⟨#[112, 97, 99, 107]⟩])).run Tryz.prog w = .ok false w := by kernel_rfl
theorem Qfj (w : World) : (Op.equalIn 10000 260 (.agg #[.string ⟨#[110, 111, 110, 101]⟩, .string ⟨#[112, 117, 116]⟩, .string ⟨#[103, 101, 116]⟩, .string ⟨#[101, 112, 111, 99, 104]⟩, .string ⟨#[106, 111, 105, 110]⟩, .string ⟨#[108, 101, 97, 118, 101]⟩, .string ⟨#[109, 97, 114, 107]⟩, .string ⟨#[114, 101, 97, 100]⟩, .string ⟨#[116, 105, 99, 107]⟩, .string ⟨#[116, 114, 105, 109]⟩, .string ⟨#[110, 111, 110, 101]⟩]) (.agg #[.string ⟨#[110, 111, 110, 101]⟩, .string ⟨#[112, 117, 116]⟩, .string ⟨#[103, 101, 116]⟩, .string ⟨#[101, 112, 111, 99, 104]⟩, .string ⟨#[106, 111, 105, 110]⟩, .string ⟨#[108, 101, 97, 118, 101]⟩, .string ⟨#[109, 97, 114, 107]⟩, .string ⟨#[114, 101, 97, 100]⟩, .string ⟨#[116, 105, 99, 107]⟩, .string ⟨#[116, 114, 105, 109]⟩, .string ⟨#[112, 97, 99, 107]⟩])).run Tryz.prog w = .ok false w := by kernel_rfl
theorem isOp_out (op : Int) (h : inB op 0 10 = false) (w : World) :
 Calls Tryz.prog 121 #[.int .i64 op] w fun e w' => e = .returned (.bool false) /\ Below w.heap.size w w' := by
 have heq := Qe0
 go_enter Tryz.func121, Tryz.ntmps121
 go_wp2_with (go_at_call 141; refine (Qas _).mono ?_; rintro e w1 ⟨rfl, g1⟩; obtain ⟨c1, f1⟩ := Qaf g1; have s1 := g1.size; try simp at s1)
 go_region_with (go_at_call 142; refine (Qhg _ h _).mono ?_; rintro e w2 ⟨rfl, g2⟩; obtain ⟨c2, f2⟩ := Qaf g2; have s2 := g2.size; try simp at s2; have q2 : w1.heap.size < w2.heap.size := by omega)
 all_goals
  go_wp2
  go_ret
  refine ⟨rfl, ?_⟩
  repeat (first | exact Below.refl _ _ | (refine via (by assumption) (by first | omega | (simp; done) | (simp; omega)) ?_) | refine Below.drew ?_ | refine Below.setCell ?_ (by first | omega | (simp; done) | (simp; omega)) _ | refine Below.alloc ?_ (by first | omega | (simp; done) | (simp; omega)) _)
theorem isOp_0 (w : World) :
 Calls Tryz.prog 121 #[.int .i64 0] w fun e w' => e = .returned (.bool false) /\ Below w.heap.size w w' := by
 have heq := Qe0
 go_enter Tryz.func121, Tryz.ntmps121
 go_wp2_with (go_at_call 141; refine (Qas _).mono ?_; rintro e w1 ⟨rfl, g1⟩; obtain ⟨c1, f1⟩ := Qaf g1; have s1 := g1.size; try simp at s1)
 go_region_with (go_at_call 142; refine (without_0 _).mono ?_; rintro e w2 ⟨rfl, g2⟩; obtain ⟨c2, f2⟩ := Qaf g2; have s2 := g2.size; try simp at s2; have q2 : w1.heap.size < w2.heap.size := by omega)
 all_goals
  go_wp2
  go_ret
  refine ⟨rfl, ?_⟩
  repeat (first | exact Below.refl _ _ | (refine via (by assumption) (by first | omega | (simp; done) | (simp; omega)) ?_) | refine Below.drew ?_ | refine Below.setCell ?_ (by first | omega | (simp; done) | (simp; omega)) _ | refine Below.alloc ?_ (by first | omega | (simp; done) | (simp; omega)) _)
theorem isOp_1 (w : World) :
 Calls Tryz.prog 121 #[.int .i64 1] w fun e w' => e = .returned (.bool true) /\ Below w.heap.size w w' := by
 have heq := Qgr
 go_enter Tryz.func121, Tryz.ntmps121
 go_wp2_with (go_at_call 141; refine (Qas _).mono ?_; rintro e w1 ⟨rfl, g1⟩; obtain ⟨c1, f1⟩ := Qaf g1; have s1 := g1.size; try simp at s1)
 go_region_with (go_at_call 142; refine (without_1 _).mono ?_; rintro e w2 ⟨rfl, g2⟩; obtain ⟨c2, f2⟩ := Qaf g2; have s2 := g2.size; try simp at s2; have q2 : w1.heap.size < w2.heap.size := by omega)
 all_goals
  go_wp2
  go_ret
  refine ⟨rfl, ?_⟩
  repeat (first | exact Below.refl _ _ | (refine via (by assumption) (by first | omega | (simp; done) | (simp; omega)) ?_) | refine Below.drew ?_ | refine Below.setCell ?_ (by first | omega | (simp; done) | (simp; omega)) _ | refine Below.alloc ?_ (by first | omega | (simp; done) | (simp; omega)) _)
theorem isOp_2 (w : World) :
 Calls Tryz.prog 121 #[.int .i64 2] w fun e w' => e = .returned (.bool true) /\ Below w.heap.size w w' := by
 have heq := Qgq
 go_enter Tryz.func121, Tryz.ntmps121
 go_wp2_with (go_at_call 141; refine (Qas _).mono ?_; rintro e w1 ⟨rfl, g1⟩; obtain ⟨c1, f1⟩ := Qaf g1; have s1 := g1.size; try simp at s1)
 go_region_with (go_at_call 142; refine (without_2 _).mono ?_; rintro e w2 ⟨rfl, g2⟩; obtain ⟨c2, f2⟩ := Qaf g2; have s2 := g2.size; try simp at s2; have q2 : w1.heap.size < w2.heap.size := by omega)
 all_goals
  go_wp2
  go_ret
  refine ⟨rfl, ?_⟩
  repeat (first | exact Below.refl _ _ | (refine via (by assumption) (by first | omega | (simp; done) | (simp; omega)) ?_) | refine Below.drew ?_ | refine Below.setCell ?_ (by first | omega | (simp; done) | (simp; omega)) _ | refine Below.alloc ?_ (by first | omega | (simp; done) | (simp; omega)) _)
theorem isOp_3 (w : World) :
 Calls Tryz.prog 121 #[.int .i64 3] w fun e w' => e = .returned (.bool true) /\ Below w.heap.size w w' := by
 have heq := Qgp
 go_enter Tryz.func121, Tryz.ntmps121
 go_wp2_with (go_at_call 141; refine (Qas _).mono ?_; rintro e w1 ⟨rfl, g1⟩; obtain ⟨c1, f1⟩ := Qaf g1; have s1 := g1.size; try simp at s1)
 go_region_with (go_at_call 142; refine (without_3 _).mono ?_; rintro e w2 ⟨rfl, g2⟩; obtain ⟨c2, f2⟩ := Qaf g2; have s2 := g2.size; try simp at s2; have q2 : w1.heap.size < w2.heap.size := by omega)
 all_goals
  go_wp2
  go_ret
  refine ⟨rfl, ?_⟩
  repeat (first | exact Below.refl _ _ | (refine via (by assumption) (by first | omega | (simp; done) | (simp; omega)) ?_) | refine Below.drew ?_ | refine Below.setCell ?_ (by first | omega | (simp; done) | (simp; omega)) _ | refine Below.alloc ?_ (by first | omega | (simp; done) | (simp; omega)) _)
theorem isOp_4 (w : World) :
 Calls Tryz.prog 121 #[.int .i64 4] w fun e w' => e = .returned (.bool true) /\ Below w.heap.size w w' := by
 have heq := Qgo
 go_enter Tryz.func121, Tryz.ntmps121
 go_wp2_with (go_at_call 141; refine (Qas _).mono ?_; rintro e w1 ⟨rfl, g1⟩; obtain ⟨c1, f1⟩ := Qaf g1; have s1 := g1.size; try simp at s1)
 go_region_with (go_at_call 142; refine (without_4 _).mono ?_; rintro e w2 ⟨rfl, g2⟩; obtain ⟨c2, f2⟩ := Qaf g2; have s2 := g2.size; try simp at s2; have q2 : w1.heap.size < w2.heap.size := by omega)
 all_goals
  go_wp2
  go_ret
  refine ⟨rfl, ?_⟩
  repeat (first | exact Below.refl _ _ | (refine via (by assumption) (by first | omega | (simp; done) | (simp; omega)) ?_) | refine Below.drew ?_ | refine Below.setCell ?_ (by first | omega | (simp; done) | (simp; omega)) _ | refine Below.alloc ?_ (by first | omega | (simp; done) | (simp; omega)) _)
theorem isOp_5 (w : World) :
 Calls Tryz.prog 121 #[.int .i64 5] w fun e w' => e = .returned (.bool true) /\ Below w.heap.size w w' := by
 have heq := Qgn
 go_enter Tryz.func121, Tryz.ntmps121
 go_wp2_with (go_at_call 141; refine (Qas _).mono ?_; rintro e w1 ⟨rfl, g1⟩; obtain ⟨c1, f1⟩ := Qaf g1; have s1 := g1.size; try simp at s1)
 go_region_with (go_at_call 142; refine (without_5 _).mono ?_; rintro e w2 ⟨rfl, g2⟩; obtain ⟨c2, f2⟩ := Qaf g2; have s2 := g2.size; try simp at s2; have q2 : w1.heap.size < w2.heap.size := by omega)
 all_goals
  go_wp2
  go_ret
  refine ⟨rfl, ?_⟩
  repeat (first | exact Below.refl _ _ | (refine via (by assumption) (by first | omega | (simp; done) | (simp; omega)) ?_) | refine Below.drew ?_ | refine Below.setCell ?_ (by first | omega | (simp; done) | (simp; omega)) _ | refine Below.alloc ?_ (by first | omega | (simp; done) | (simp; omega)) _)
theorem isOp_6 (w : World) :
 Calls Tryz.prog 121 #[.int .i64 6] w fun e w' => e = .returned (.bool true) /\ Below w.heap.size w w' := by
 have heq := Qgm
 go_enter Tryz.func121, Tryz.ntmps121
 go_wp2_with (go_at_call 141; refine (Qas _).mono ?_; rintro e w1 ⟨rfl, g1⟩; obtain ⟨c1, f1⟩ := Qaf g1; have s1 := g1.size; try simp at s1)
 go_region_with (go_at_call 142; refine (without_6 _).mono ?_; rintro e w2 ⟨rfl, g2⟩; obtain ⟨c2, f2⟩ := Qaf g2; have s2 := g2.size; try simp at s2; have q2 : w1.heap.size < w2.heap.size := by omega)
 all_goals
  go_wp2
  go_ret
  refine ⟨rfl, ?_⟩
  repeat (first | exact Below.refl _ _ | (refine via (by assumption) (by first | omega | (simp; done) | (simp; omega)) ?_) | refine Below.drew ?_ | refine Below.setCell ?_ (by first | omega | (simp; done) | (simp; omega)) _ | refine Below.alloc ?_ (by first | omega | (simp; done) | (simp; omega)) _)
theorem isOp_7 (w : World) :
 Calls Tryz.prog 121 #[.int .i64 7] w fun e w' => e = .returned (.bool true) /\ Below w.heap.size w w' := by
 have heq := Qgl
 go_enter Tryz.func121, Tryz.ntmps121
 go_wp2_with (go_at_call 141; refine (Qas _).mono ?_; rintro e w1 ⟨rfl, g1⟩; obtain ⟨c1, f1⟩ := Qaf g1; have s1 := g1.size; try simp at s1)
 go_region_with (go_at_call 142; refine (without_7 _).mono ?_; rintro e w2 ⟨rfl, g2⟩; obtain ⟨c2, f2⟩ := Qaf g2; have s2 := g2.size; try simp at s2; have q2 : w1.heap.size < w2.heap.size := by omega)
 all_goals
  go_wp2
  go_ret
  refine ⟨rfl, ?_⟩
  repeat (first | exact Below.refl _ _ | (refine via (by assumption) (by first | omega | (simp; done) | (simp; omega)) ?_) | refine Below.drew ?_ | refine Below.setCell ?_ (by first | omega | (simp; done) | (simp; omega)) _ | refine Below.alloc ?_ (by first | omega | (simp; done) | (simp; omega)) _)
theorem isOp_8 (w : World) :
 Calls Tryz.prog 121 #[.int .i64 8] w fun e w' => e = .returned (.bool true) /\ Below w.heap.size w w' := by
 have heq := Qgk
 go_enter Tryz.func121, Tryz.ntmps121
 go_wp2_with (go_at_call 141; refine (Qas _).mono ?_; rintro e w1 ⟨rfl, g1⟩; obtain ⟨c1, f1⟩ := Qaf g1; have s1 := g1.size; try simp at s1)
 go_region_with (go_at_call 142; refine (without_8 _).mono ?_; rintro e w2 ⟨rfl, g2⟩; obtain ⟨c2, f2⟩ := Qaf g2; have s2 := g2.size; try simp at s2; have q2 : w1.heap.size < w2.heap.size := by omega)
 all_goals
  go_wp2
  go_ret
  refine ⟨rfl, ?_⟩
  repeat (first | exact Below.refl _ _ | (refine via (by assumption) (by first | omega | (simp; done) | (simp; omega)) ?_) | refine Below.drew ?_ | refine Below.setCell ?_ (by first | omega | (simp; done) | (simp; omega)) _ | refine Below.alloc ?_ (by first | omega | (simp; done) | (simp; omega)) _)
theorem isOp_9 (w : World) :
 Calls Tryz.prog 121 #[.int .i64 9] w fun e w' => e = .returned (.bool true) /\ Below w.heap.size w w' := by
 have heq := Qgj
 go_enter Tryz.func121, Tryz.ntmps121
 go_wp2_with (go_at_call 141; refine (Qas _).mono ?_; rintro e w1 ⟨rfl, g1⟩; obtain ⟨c1, f1⟩ := Qaf g1; have s1 := g1.size; try simp at s1)
 go_region_with (go_at_call 142; refine (without_9 _).mono ?_; rintro e w2 ⟨rfl, g2⟩; obtain ⟨c2, f2⟩ := Qaf g2; have s2 := g2.size; try simp at s2; have q2 : w1.heap.size < w2.heap.size := by omega)
 all_goals
  go_wp2
  go_ret
  refine ⟨rfl, ?_⟩
  repeat (first | exact Below.refl _ _ | (refine via (by assumption) (by first | omega | (simp; done) | (simp; omega)) ?_) | refine Below.drew ?_ | refine Below.setCell ?_ (by first | omega | (simp; done) | (simp; omega)) _ | refine Below.alloc ?_ (by first | omega | (simp; done) | (simp; omega)) _)
theorem isOp_10 (w : World) :
 Calls Tryz.prog 121 #[.int .i64 10] w fun e w' => e = .returned (.bool true) /\ Below w.heap.size w w' := by
 have heq := Qfj
 go_enter Tryz.func121, Tryz.ntmps121
 go_wp2_with (go_at_call 141; refine (Qas _).mono ?_; rintro e w1 ⟨rfl, g1⟩; obtain ⟨c1, f1⟩ := Qaf g1; have s1 := g1.size; try simp at s1)
 go_region_with (go_at_call 142; refine (without_10 _).mono ?_; rintro e w2 ⟨rfl, g2⟩; obtain ⟨c2, f2⟩ := Qaf g2; have s2 := g2.size; try simp at s2; have q2 : w1.heap.size < w2.heap.size := by omega)
 all_goals
  go_wp2
  go_ret
  refine ⟨rfl, ?_⟩
  repeat (first | exact Below.refl _ _ | (refine via (by assumption) (by first | omega | (simp; done) | (simp; omega)) ?_) | refine Below.drew ?_ | refine Below.setCell ?_ (by first | omega | (simp; done) | (simp; omega)) _ | refine Below.alloc ?_ (by first | omega | (simp; done) | (simp; omega)) _)
theorem isOp_any (op : Int) (w : World) :
 Calls Tryz.prog 121 #[.int .i64 op] w fun e w' => e = .returned (.bool (inB op 1 10)) /\ Below w.heap.size w w' := by
 rcases op_ways op with h | rfl | rfl | rfl | rfl | rfl | rfl | rfl | rfl | rfl | rfl | rfl
 . have e : inB op 1 10 = false := by simp only [inB, decide_eq_false_iff_not] at h ⊢; omega
   rw [e]; exact isOp_out op h w
 . exact isOp_0 w
 . exact isOp_1 w
 . exact isOp_2 w
 . exact isOp_3 w
 . exact isOp_4 w
 . exact isOp_5 w
 . exact isOp_6 w
 . exact isOp_7 w
 . exact isOp_8 w
 . exact isOp_9 w
 . exact isOp_10 w
end Go.Proofs.YtbcbdhjeebcleaaGreatDoor.CmdOk
