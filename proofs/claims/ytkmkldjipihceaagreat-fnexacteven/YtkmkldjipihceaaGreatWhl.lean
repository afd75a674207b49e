/-
  Whole records out of a box and into one, in one step. No condition.
-/
import Derived.Test.YtkmkldjipihceaaGreatRecs
import Derived.Deep.WholeRow
set_option linter.unusedVariables false
set_option linter.unusedSimpArgs false
set_option maxRecDepth 100000
set_option maxHeartbeats 8000000
set_option maxRecDepth 100000
set_option maxHeartbeats 8000000
namespace Go.Proofs.YtkmkldjipihceaaGreat.Gen
open ChangeShapes WideShapes ChangeAt RowKit Joins Deep Base
theorem Blk.row {W : World} {B : Nat} {t : TypeId} {old : Array Value} (p : Blk W B t old) (vs : Array Value) : Blk (W.setRow B vs) B t vs := setRow_heap W B old vs t (0, 0) p
theorem Offp.row {S : Nat -> Prop} {w w1 : World} (h : Offp S w w1) {b : Nat} (hb : S b) (cs : Array Value) : Offp S w (w1.setRow b cs) :=
 ⟨h.os, h.tape, h.output, by rw [setRow_size]; exact h.size, fun k hk hn => (setRow_other w1 b k cs (fun e => hn (e ▸ hb))).trans (h.block k hk hn)⟩
theorem bl_row {B g : Nat} {w0 w : World} (h : Below B w0 w) (hg : B <= g) (cs : Array Value) : Below B w0 (w.setRow g cs) :=
 ⟨h.os, h.tape, h.output, by rw [setRow_size]; exact h.size, fun k hk => (setRow_other w g k cs (by omega)).trans (h.block k hk)⟩
section
variable {P : Program} {ops : Array Oper} {rest : List Oper} {op : Oper} {a : Act} {w : World} {Q : Go.Exit -> Act -> World -> Prop}
theorem Qau (hgd : op.guard = none) (ty : TypeId) (x : Operand) (ho : op.op = .load ty x) {b : Nat} (hx : a.eval x = .pointer (some ⟨b, 0, none⟩)) {t : TypeId} {vs : Array Value} (p : Blk w b t vs) {fs : Array Field} (hu : P.underlying ty = some (.struct fs)) (hi : (P.info? ty).map (·.size) = some vs.size)
 (h : wpList P ops Q rest (a.put op.dst (.agg vs)) w) : wpList P ops Q (op :: rest) a w :=
 wpList_plain hgd fun K hK => by
  unfold Oper.wp execOp
  simp only [ho, hx, Instr.loadAt, Instr.sureAddr, Sem.run_bind, Sem.run_pure, Result.andThen_ok, run_loadVar_row w b t ty vs (0, 0) (.struct fs) p hu rfl hi]
  exact hK _ _ h
theorem Qa2 (hgd : op.guard = none) (ty : TypeId) (x y : Operand) (ho : op.op = .store ty x y) {g : Nat} {cells : Array Value} (hx : a.eval x = .pointer (some ⟨g, 0, none⟩)) (hy : a.eval y = .agg cells) {t : TypeId} {old : Array Value} (p : Blk w g t old) (hi : (P.info? ty).map (·.size) = some cells.size) (hold : old.size = cells.size) (h1 : cells.all (·.oneCell') = true)
 (h : wpList P ops Q rest (a.put op.dst undef) (w.setRow g cells)) : wpList P ops Q (op :: rest) a w :=
 wpList_plain hgd fun _ hK => wp_store_row ty x y ho g cells hx hy t old p hi hold h1 (hK _ _ h)
end
theorem Qcf {P : Program} {a : Act} {op : Oper} {w : World} {ty : TypeId} {x : Operand} (ho : op.op = .load ty x) {b : Nat} (hx : a.eval x = .pointer (some ⟨b, 0, none⟩)) {t : TypeId} {vs : Array Value} (p : Blk w b t vs) {fs : Array Field} (hu : P.underlying ty = some (.struct fs)) (hi : (P.info? ty).map (·.size) = some vs.size) : (execOp a.eval op).run P w = .ok (.value (.agg vs)) w := by
 unfold execOp
 simp only [ho, hx, Instr.loadAt, Instr.sureAddr, Sem.run_bind, Sem.run_pure, Result.andThen_ok, run_loadVar_row w b t ty vs (0, 0) (.struct fs) p hu rfl hi]
theorem Qdb {P : Program} {fn : Func} {p : Tmp} {ty : TypeId} (h : fn.results = #[.cell p ty]) {tmps : Array Value} {w : World} {b : Nat} (ht : tmps.getD p undef = .pointer (some ⟨b, 0, none⟩)) {t : TypeId} {vs : Array Value} (q : Blk w b t vs) {fs : Array Field} (hu : P.underlying ty = some (.struct fs)) (hi : (P.info? ty).map (·.size) = some vs.size) : (results fn tmps).run P w = .ok (.agg vs) w := by
 have ht2 : tmps[p]?.getD undef = .pointer (some ⟨b, 0, none⟩) := by rw [← Array.getD_eq_getD_getElem?]; exact ht
 have hl := run_loadVar_row (P := P) w b t ty vs (0, 0) (.struct fs) q hu rfl hi
 simp only [results, h]
 simp [ht2, asAddr, hl]
end Go.Proofs.YtkmkldjipihceaaGreat.Gen
