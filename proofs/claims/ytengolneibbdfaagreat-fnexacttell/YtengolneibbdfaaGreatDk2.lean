/-
  spec.l10Copy, Append, Sync, Fall: what they answer. No condition but that there are at most 3000000 bytes.
-/
import Derived.Test.YtengolneibbdfaaGreatAnsList
import Derived.Deep.RegionHeld3
import Derived.BigQuiet
namespace Go.Proofs.YtengolneibbdfaaGreat.Gen
open Go.ChangeShapes Go.WideShapes Go.ChangeAt Go.RowKit Go.Joins Go.Deep Base
set_option linter.unusedVariables false
theorem keptB {W W' : World} {B : Nat} {o : Option Nat} {t : TypeId} {vs : Array Value} (h : Blk W B t vs) (hg : W.grownBy W' o) (hne : some B ≠ o) : Blk W' B t vs := (hg.block B h.lt hne).trans h
theorem heldD {W : World} {B C : Nat} {t t' : TypeId} {a b a' b' : Value} (h : Blk W B t #[a, b]) (h' : Blk W C t' #[a', b']) :
    W.cell? ⟨B, 0, none⟩ = some a /\ W.cell? ⟨B, 1, none⟩ = some b /\ (W.cell? ⟨C, 0, none⟩).isSome = true /\ (W.cell? ⟨C, 1, none⟩).isSome = true /\ W.frozen? ⟨C, 0, none⟩ = false /\ W.frozen? ⟨C, 1, none⟩ = false := by
  obtain ⟨h0, h1⟩ := h.row2
  obtain ⟨s0, s1⟩ := h'.row2
  exact ⟨h0, h1, by rw [s0]; rfl, by rw [s1]; rfl, h'.thaw 0, h'.thaw 1⟩
set_option maxRecDepth 100000 in
set_option maxHeartbeats 1000000 in
theorem l10Copy_any (su : Int) (A : Option Addr) (cap : Nat) (l : List UInt8) (hl : l.length <= 3000000) (w : World) (hA : At w A l) :
    Calls Tryz.prog 103 #[.agg #[.slice A l.length cap, .int .i64 su]] w fun e w' => ∃ a c, e = .returned (.agg #[.slice a l.length c, .int .i64 su]) /\ w'.ownsRow w.heap.size 5 1 (.slice a l.length c) l.length (flat l) /\ Below w.heap.size w w' := by
  have HA : Hid (At w A l) := hA
  clear hA
  have p0 := (Blk.new w 58 #[.slice A l.length cap, .int .i64 su]).alloc (.cells #[.slice none 0 0, .int .i64 0] 58)
  have p1 := Blk.new (w.alloc (.cells #[.slice A l.length cap, .int .i64 su] 58)) 58 #[.slice none 0 0, .int .i64 0]
  have B0 : Below w.heap.size w ((w.alloc (.cells #[.slice A l.length cap, .int .i64 su] 58)).alloc (.cells #[.slice none 0 0, .int .i64 0] 58)) := alloc0 (alloc0 (Below.refl _ _) _) _
  have hsz : ((w.alloc (.cells #[.slice A l.length cap, .int .i64 su] 58)).alloc (.cells #[.slice none 0 0, .int .i64 0] 58)).heap.size = w.heap.size + 2 := by simp
  rw [World.size_alloc] at p1
  go_enter Tryz.func103, Tryz.ntmps103
  go_wp2_with fail
  generalize (w.alloc (.cells #[.slice A l.length cap, .int .i64 su] 58)).alloc (.cells #[.slice none 0 0, .int .i64 0] 58) = W0 at p0 p1 B0 hsz ⊢
  have X0 := (p0.alloc (.cells #[] 5)).drew
  have X1 := (p1.alloc (.cells #[] 5)).drew
  have hBX : Below w.heap.size w (W0.alloc (.cells #[] 5)).drew := (alloc0 B0 _).drew
  obtain ⟨v, w1, hr, hown, hgrow, hat⟩ := append_els8 w.heap.size (.slice (some ⟨W0.heap.size, 0, none⟩) 0 0) [] l A cap (W0.alloc (.cells #[] 5)).drew hBX.size
    ⟨rfl, .inr ⟨W0.heap.size, 0, #[], rfl, by omega, (Blk.new W0 5 #[]).drew, Nat.le_refl _, by simp [maxLen], rfl, rfl⟩⟩ (HA.out.below hBX) (by simp; omega)
  simp only [List.length_nil, Nat.zero_add, List.nil_append] at hown
  have Y0 := keptB X0 hgrow (by intro h; have : w.heap.size = W0.heap.size := Option.some.inj h; omega)
  have Y1 := keptB X1 hgrow (by intro h; have : w.heap.size + 1 = W0.heap.size := Option.some.inj h; omega)
  have B1 : Below w.heap.size w w1 := hBX.grown hgrow hBX.size (fun k e => by have : W0.heap.size = k := Option.some.inj e; omega)
  obtain ⟨a, c, rfl, hc⟩ := owns_form hown
  have hn1 : some (w.heap.size + 1) ≠ (Value.slice a l.length c).ownBlock := by
    rcases hat with e | e
    . rw [e]; intro h; have : w.heap.size + 1 = W0.heap.size := Option.some.inj h; omega
    . rw [e]; intro h; have := Option.some.inj h; have e2 : (W0.alloc (Obj.cells #[] 5)).drew.heap.size = W0.heap.size + 1 := World.size_alloc _ _; omega
  have Hn1 : Hid (some (w.heap.size + 1) ≠ (Value.slice a l.length c).ownBlock) := hn1
  have Hown : Hid (w1.ownsRow w.heap.size 5 1 (.slice a l.length c) l.length (flat l)) := hown
  have Z0 := (Y0.other (B' := w.heap.size + 1) (by omega) 0 (.slice a l.length c)).other (B' := w.heap.size + 1) (by omega) 1 (.int .i64 su)
  have Z1 : Blk _ (w.heap.size + 1) 58 #[.slice a l.length c, .int .i64 su] := (Y1.setAt 0 (.slice a l.length c)).setAt 1 (.int .i64 su)
  have SW := heldD p0 p1
  have SX := heldD X0 X1
  have SY := heldD Y0 Y1
  have SZ := heldD Z0 Z1
  have SD := heldD p0.drew p1.drew
  obtain ⟨c0, c1⟩ := p0.row2
  obtain ⟨e0, e1⟩ := Z1.row2
  obtain ⟨n0, n1⟩ := Y1.row2
  have k6 := Y1.thaw 0
  have k7 := Y1.thaw 1
  clear hgrow hat hown hn1 hBX p0 p1 X0 X1 Y0 Y1 Z0 Z1 hc hsz
  go_region_held3 (fun w' => w'.cell? ⟨w.heap.size, 0, none⟩ = some (.slice A l.length cap) /\ w'.cell? ⟨w.heap.size, 1, none⟩ = some (.int .i64 su) /\
      (w'.cell? ⟨w.heap.size + 1, 0, none⟩).isSome = true /\ (w'.cell? ⟨w.heap.size + 1, 1, none⟩).isSome = true /\ w'.frozen? ⟨w.heap.size + 1, 0, none⟩ = false /\ w'.frozen? ⟨w.heap.size + 1, 1, none⟩ = false)
    (first | with_reducible exact SD | with_reducible exact SX | with_reducible exact SY | with_reducible exact SZ | with_reducible exact SW)
    (first
      | (refine step_append_is (by rfl) _ _ _ (by rfl) _ _ _ rfl rfl hr ?_))
  all_goals
    clear SW SX SY SZ SD n0 n1 k6 k7
    go_wp2
    exact bodyPost_ret (v := .agg #[.slice a l.length c, .int .i64 su]) (by simp [results, Tryz.results103, go_sem, e0, e1]) rfl
      ⟨_, _, rfl, owns_set (owns_set Hown.out Hn1.out) Hn1.out, bl_set (bl_set B1 (by omega) _) (by omega) _⟩
end Go.Proofs.YtengolneibbdfaaGreat.Gen
