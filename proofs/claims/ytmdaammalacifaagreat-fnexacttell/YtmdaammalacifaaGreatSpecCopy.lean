/-
  spec.l3Copy at this seat: the row with its list copied.
-/
import Derived.Test.YtmdaammalacifaaGreatCopies
set_option linter.unusedVariables false
set_option linter.unusedSimpArgs false
set_option maxRecDepth 100000
set_option maxHeartbeats 8000000
namespace Go.Proofs.YtmdaammalacifaaGreat.Items
open ChangeShapes WideShapes ChangeAt RowKit Shelf Base
theorem Blk.spots {W : World} {B : Nat} {t : TypeId} {a b c : Value} (h : Blk W B t #[a, b, c]) :
 (W.cell? ⟨B, 0, none⟩).isSome = true /\ (W.cell? ⟨B, 1, none⟩).isSome = true /\ (W.cell? ⟨B, 2, none⟩).isSome = true /\ W.frozen? ⟨B, 0, none⟩ = false /\ W.frozen? ⟨B, 1, none⟩ = false /\ W.frozen? ⟨B, 2, none⟩ = false := by
 obtain ⟨h0, h1, h2⟩ := h.row
 exact ⟨by rw [h0]; rfl, by rw [h1]; rfl, by rw [h2]; rfl, h.thaw 0, h.thaw 1, h.thaw 2⟩
theorem held {W : World} {B : Nat} {t : TypeId} {a b c a' b' c' : Value} (h : Blk W B t #[a, b, c]) (h' : Blk W (B + 1) t #[a', b', c']) :
 W.cell? ⟨B, 0, none⟩ = some a /\ W.cell? ⟨B, 1, none⟩ = some b /\ W.cell? ⟨B, 2, none⟩ = some c /\
  (W.cell? ⟨B + 1, 0, none⟩).isSome = true /\ (W.cell? ⟨B + 1, 1, none⟩).isSome = true /\ (W.cell? ⟨B + 1, 2, none⟩).isSome = true /\
  W.frozen? ⟨B + 1, 0, none⟩ = false /\ W.frozen? ⟨B + 1, 1, none⟩ = false /\ W.frozen? ⟨B + 1, 2, none⟩ = false := by
 obtain ⟨h0, h1, h2⟩ := h.row
 obtain ⟨s0, s1, s2, s3, s4, s5⟩ := h'.spots
 exact ⟨h0, h1, h2, s0, s1, s2, s3, s4, s5⟩
theorem l3Copy_any (start next : Int) (A : Option Addr) (cap : Nat) (l : List It) (hl : l.length <= 1048576) (w : World) (hA : At w A l) :
 Calls Tryz.prog 107 #[.agg #[.int .i64 start, .int .i64 next, .slice A l.length cap]] w fun e w' => ∃ v, e = .returned (.agg #[.int .i64 start, .int .i64 next, v]) /\ w'.ownsRow w.heap.size 185 5 v l.length (flat l) /\ Below w.heap.size w w' := by
 have HA : Hid (At w A l) := hA
 clear hA
 have p0 := (Blk.new w 167 #[.int .i64 start, .int .i64 next, .slice A l.length cap]).alloc (.cells #[.int .i64 0, .int .i64 0, .slice none 0 0] 167)
 have p1 := Blk.new (w.alloc (.cells #[.int .i64 start, .int .i64 next, .slice A l.length cap] 167)) 167 #[.int .i64 0, .int .i64 0, .slice none 0 0]
 have B0 : Below w.heap.size w ((w.alloc (.cells #[.int .i64 start, .int .i64 next, .slice A l.length cap] 167)).alloc (.cells #[.int .i64 0, .int .i64 0, .slice none 0 0] 167)) := Qab (Qab (Below.refl _ _) _) _
 have hsz : ((w.alloc (.cells #[.int .i64 start, .int .i64 next, .slice A l.length cap] 167)).alloc (.cells #[.int .i64 0, .int .i64 0, .slice none 0 0] 167)).heap.size = w.heap.size + 2 := by simp
 rw [World.size_alloc] at p1
 go_enter Tryz.func107, Tryz.ntmps107
 go_wp2_with fail
 generalize (w.alloc (.cells #[.int .i64 start, .int .i64 next, .slice A l.length cap] 167)).alloc (.cells #[.int .i64 0, .int .i64 0, .slice none 0 0] 167) = W0 at p0 p1 B0 hsz ⊢
 have q0 := p0.lt
 have q1 := p1.lt
 obtain ⟨c0, c1, c2⟩ := p0.row
 have X0 := (p0.alloc (.cells #[] 185)).drew
 have X1 := (p1.alloc (.cells #[] 185)).drew
 have hBX : Below w.heap.size w (W0.alloc (.cells #[] 185)).drew := (Qab B0 _).drew
 obtain ⟨v, w1, hr, hown, hgrow, hat⟩ := Qdl w.heap.size (.slice (some ⟨W0.heap.size, 0, none⟩) 0 0) [] l A cap (W0.alloc (.cells #[] 185)).drew hBX.size
  ⟨rfl, .inr ⟨W0.heap.size, 0, #[], rfl, by omega, World.alloc_heap_new W0 _, Nat.le_refl _, by simp [maxLen], rfl, rfl⟩⟩ (HA.out.below hBX) (by simp; omega)
 simp only [List.length_nil, Nat.zero_add, List.nil_append] at hown
 have Y0 := X0.kept hgrow (by intro h; have : w.heap.size = W0.heap.size := Option.some.inj h; omega)
 have Y1 := X1.kept hgrow (by intro h; have : w.heap.size + 1 = W0.heap.size := Option.some.inj h; omega)
 have B1 : Below w.heap.size w w1 := hBX.grown hgrow hBX.size (fun k e => by have : W0.heap.size = k := Option.some.inj e; omega)
 obtain ⟨a, c, rfl, hc⟩ := Qar hown
 have hn1 : some (w.heap.size + 1) ≠ (Value.slice a l.length c).ownBlock := by
  rcases hat with e | e
  . rw [e]; intro h; have : w.heap.size + 1 = W0.heap.size := Option.some.inj h; omega
  . rw [e]; intro h; have := Option.some.inj h; have e2 : (W0.alloc (Obj.cells #[] 185)).drew.heap.size = W0.heap.size + 1 := World.size_alloc _ _; omega
 have Hn1 : Hid (some (w.heap.size + 1) ≠ (Value.slice a l.length c).ownBlock) := hn1
 have Hown : Hid (w1.ownsRow w.heap.size 185 5 (.slice a l.length c) l.length (flat l)) := hown
 have Z0 := ((Y0.other (B' := w.heap.size + 1) (by omega) 0 (.int .i64 start)).other (B' := w.heap.size + 1) (by omega) 1 (.int .i64 next)).other (B' := w.heap.size + 1) (by omega) 2 (.slice a l.length c)
 have Z1 : Blk _ (w.heap.size + 1) 167 #[.int .i64 start, .int .i64 next, .slice a l.length c] := ((Y1.setAt 0 (.int .i64 start)).setAt 1 (.int .i64 next)).setAt 2 (.slice a l.length c)
 have SW := held p0 p1
 have SX := held X0 X1
 have SY := held Y0 Y1
 have SZ := held Z0 Z1
 have SD := held p0.drew p1.drew
 obtain ⟨c0, c1, c2⟩ := p0.row
 obtain ⟨e0, e1, e2⟩ := Z1.row
 obtain ⟨n0, n1, n2⟩ := Y1.row
 have k6 := Y1.thaw 0
 have k7 := Y1.thaw 1
 have k8 := Y1.thaw 2
 clear hgrow hat hown hn1 hBX p0 p1 X0 X1 Y0 Y1 Z0 Z1 hc hsz q0 q1
 go_region_held3 (fun w' => w'.cell? ⟨w.heap.size, 0, none⟩ = some (.int .i64 start) /\ w'.cell? ⟨w.heap.size, 1, none⟩ = some (.int .i64 next) /\ w'.cell? ⟨w.heap.size, 2, none⟩ = some (.slice A l.length cap) /\
  (w'.cell? ⟨w.heap.size + 1, 0, none⟩).isSome = true /\ (w'.cell? ⟨w.heap.size + 1, 1, none⟩).isSome = true /\ (w'.cell? ⟨w.heap.size + 1, 2, none⟩).isSome = true /\
  w'.frozen? ⟨w.heap.size + 1, 0, none⟩ = false /\ w'.frozen? ⟨w.heap.size + 1, 1, none⟩ = false /\ w'.frozen? ⟨w.heap.size + 1, 2, none⟩ = false)
  (first | with_reducible exact SD | with_reducible exact SX | with_reducible exact SY | with_reducible exact SZ | with_reducible exact SW)
  (first
   | (refine Qcc (by rfl) _ _ _ (by rfl) _ _ _ rfl rfl hr ?_))
 all_goals
  clear SW SX SY SZ SD n0 n1 n2 k6 k7 k8
  go_wp2
  exact bodyPost_ret (v := .agg #[.int .i64 start, .int .i64 next, .slice a l.length c]) (by simp [results, Tryz.results107, go_sem, e0, e1, e2]) rfl
   ⟨_, rfl, Qav (Qav (Qav Hown.out Hn1.out) Hn1.out) Hn1.out, Qal (Qal (Qal B1 (by omega) _) (by omega) _) (by omega) _⟩
end Go.Proofs.YtmdaammalacifaaGreat.Items
