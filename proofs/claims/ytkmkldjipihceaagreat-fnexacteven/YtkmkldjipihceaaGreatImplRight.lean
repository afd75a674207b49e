/-
  The program's isRightItem and rowOf.ascends at this seat.
-/
import Derived.Test.YtkmkldjipihceaaGreatItV
set_option linter.unusedVariables false
set_option linter.unusedSimpArgs false
set_option maxRecDepth 100000
set_option maxHeartbeats 8000000
set_option maxRecDepth 100000
set_option maxHeartbeats 8000000
namespace Go.Proofs.YtkmkldjipihceaaGreat.Items
open ChangeShapes WideShapes ChangeAt RowKit Shelf Base
theorem Qd0 (off who time : Int) (k t : ByteArray) (hk : k.size <= 9223372036854775807) (ht : t.size <= 9223372036854775807) (w : World) :
 Calls Tryz.prog 182 #[.agg (Qbf off k t who time)] w fun e w' => e = .returned (.bool (Qeu k t who time)) /\ Below w.heap.size w w' := by
 rcases four (textB k) (textB t) (inB who 0 3) (inB time 0 100000) with h1 | ⟨h1, h2⟩ | ⟨h1, h2, h3⟩ | ⟨h1, h2, h3, h4⟩ | ⟨h1, h2, h3, h4⟩
 all_goals
  go_enter Tryz.func182, Tryz.ntmps182
  have q1 : w.heap.size < w.heap.size + 1 := Nat.lt_succ_self _
  go_wp2_with (first
   | (go_at_call 89; refine (within_any _ _ _ _).mono ?_; rintro e w' ⟨rfl, rfl⟩)
   | (go_at_call_of 99 (Value.string k); refine (implText_any k hk _).mono ?_; rintro e w1 ⟨rfl, g1⟩; obtain ⟨c1, f1⟩ := Qax g1; have s1 := g1.size; try simp at s1; have q1 : w.heap.size < w1.heap.size := by omega)
   | (go_at_call_of 99 (Value.string t); refine (implText_any t ht _).mono ?_; rintro e w1 ⟨rfl, g1⟩; obtain ⟨c1, f1⟩ := Qax g1; have s1 := g1.size; try simp at s1; have q1 : w.heap.size < w1.heap.size := by omega))
  go_ret
  refine ⟨by simp [Qeu, *], ?_⟩
  repeat (first | exact Below.refl _ _ | refine via0 (by assumption) ?_ | refine Below.drew ?_ | refine Qab ?_ _)
attribute [local go_sem] Oper.semAt_some
def Qb0 (next : Int) (s : Option Int) (x : It) : Option Int := s.bind fun m => if x.off < m ∨ next <= x.off then none else some (wrap64 (x.off + 1))
def ascF (next start : Int) (l : List It) : Option Int := l.foldl (Qb0 next) (some start)
theorem ascF_snoc (next start : Int) (l : List It) (x : It) : ascF next start (l ++ [x]) = Qb0 next (ascF next start l) x := by simp [ascF]
theorem ascF_none (next start : Int) {p l : List It} (h : p <+: l) (hn : ascF next start p = none) : ascF next start l = none := by
 obtain ⟨r, rfl⟩ := h
 unfold ascF at hn ⊢
 rw [List.foldl_append, hn]
 clear hn
 induction r with
 | nil => rfl
 | cons a r ih => exact ih
theorem Blk.item {W : World} {B : Nat} {t : TypeId} {a b c d e : Value} (h : Blk W B t #[a, b, c, d, e]) :
 W.cell? ⟨B, 0, none⟩ = some a /\ W.cell? ⟨B, 1, none⟩ = some b /\ W.cell? ⟨B, 2, none⟩ = some c /\ W.cell? ⟨B, 3, none⟩ = some d /\ W.cell? ⟨B, 4, none⟩ = some e :=
 ⟨h.cell rfl, h.cell rfl, h.cell rfl, h.cell rfl, h.cell rfl⟩
theorem Blk.row {W : World} {B : Nat} {t : TypeId} {a b c : Value} (h : Blk W B t #[a, b, c]) :
 W.cell? ⟨B, 0, none⟩ = some a /\ W.cell? ⟨B, 1, none⟩ = some b /\ W.cell? ⟨B, 2, none⟩ = some c :=
 ⟨h.cell rfl, h.cell rfl, h.cell rfl⟩
theorem Blk.one {W : World} {B : Nat} {t : TypeId} {a : Value} (h : Blk W B t #[a]) : W.cell? ⟨B, 0, none⟩ = some a /\ W.frozen? ⟨B, 0, none⟩ = false :=
 ⟨h.cell rfl, (show Boxed W B t a from h).frozen⟩
theorem Blk.set {W : World} {B : Nat} {t : TypeId} {a : Value} (h : Blk W B t #[a]) (v : Value) : Blk (W.setCell ⟨B, 0, none⟩ v) B t #[v] := (show Boxed W B t a from h).set v
theorem number_of (x : It) (w : World) : (method 386 225 (.agg (Qbf x.off x.key x.text x.who x.time)) "loop.example/g00393/impl.number").run Tryz.prog w = .ok (216, .agg (Qbf x.off x.key x.text x.who x.time)) w := by kernel_rfl
theorem Qdq (x : It) (w : World) : Calls Tryz.prog 216 #[.agg (Qbf x.off x.key x.text x.who x.time)] w
 fun e w' => e = .returned (.int .i64 x.off) /\ w' = w.alloc (.cells (Qbf x.off x.key x.text x.who x.time) 225) := by
 go_enter Tryz.func216, Tryz.ntmps216
 go_wp2
 go_ret
 exact ⟨rfl, rfl⟩
theorem Qbh {B C : Nat} {t : TypeId} {vs : Array Value} {X Y : World} {row : Option Nat} (h : Blk X C t vs) (hg : X.grownBy Y row) (hr : ∀ r, row = some r -> B <= r /\ ∃ o : Obj, X.heap[r]? = some o /\ o.isCells = false) : Blk Y C t vs :=
 blk_own C t (fun _ : Unit => vs) () X Y row h hg (fun r e => (hr r e).2)
theorem Qil (start next : Int) (A : Option Addr) (cap : Nat) (l : List It) (hl : l.length <= 2000000) (w : World) (hA : l = [] ∨ ∃ b o, A = some ⟨b, o, none⟩ /\ b < w.heap.size /\ In w b o l) :
 Calls Tryz.prog 180 #[.agg (Qap start next A l.length cap)] w fun e w' => e = .returned (.bool (ascF next start l).isSome) /\ Below w.heap.size w w' := by
 refine (callsIn_wide (n := 9)).1 ?_
 refine callsIn_of_wp_marks Tryz.func180 rfl trivial ?_ rfl
 simp only [Tryz.ntmps180]
 simp only [List.size_toArray, List.length_cons, List.length_nil, Nat.reduceAdd, Nat.reduceSub, Array.replicate_succ, Array.replicate_zero, List.push_toArray, List.append_toArray, List.nil_append, List.cons_append]
 gi_wp2_with (refine ⟨trivial, ?_⟩; gi_at_call 189; refine (told_in Fence.wide _ trivial rfl _ _ _ _ _ _).mono ?_; rintro e w' ⟨rfl, rfl⟩)
 have b0 := (((Blk.new w 254 (Qap start next A l.length cap)).alloc (.cells #[.bool false] 4)).alloc (.cells #[.int .i64 start] 3)).alloc (.cells (Qap start next A l.length cap) 254)
 have b1 := ((Blk.new (w.alloc (.cells (Qap start next A l.length cap) 254)) 4 #[.bool false]).alloc (.cells #[.int .i64 start] 3)).alloc (.cells (Qap start next A l.length cap) 254)
 have b2 := (Blk.new ((w.alloc (.cells (Qap start next A l.length cap) 254)).alloc (.cells #[.bool false] 4)) 3 #[.int .i64 start]).alloc (.cells (Qap start next A l.length cap) 254)
 have b3 := Blk.new (((w.alloc (.cells (Qap start next A l.length cap) 254)).alloc (.cells #[.bool false] 4)).alloc (.cells #[.int .i64 start] 3)) 254 (Qap start next A l.length cap)
 have hB0 : Below w.heap.size w ((((w.alloc (.cells (Qap start next A l.length cap) 254)).alloc (.cells #[.bool false] 4)).alloc (.cells #[.int .i64 start] 3)).alloc (.cells (Qap start next A l.length cap) 254)) := ((((Below.refl _ w).alloc (Nat.le_refl _) _).alloc (by simp) _).alloc (by simp; omega) _).alloc (by simp; omega) _
 have hsz : ((((w.alloc (.cells (Qap start next A l.length cap) 254)).alloc (.cells #[.bool false] 4)).alloc (.cells #[.int .i64 start] 3)).alloc (.cells (Qap start next A l.length cap) 254)).heap.size = w.heap.size + 4 := by simp
 simp only [World.size_alloc] at b1 b2 b3
 generalize ((((w.alloc (.cells (Qap start next A l.length cap) 254)).alloc (.cells #[.bool false] 4)).alloc (.cells #[.int .i64 start] 3)).alloc (.cells (Qap start next A l.length cap) 254)) = W0 at b0 b1 b2 b3 hB0 hsz ⊢
 have hA' : l = [] ∨ ∃ b o, A = some ⟨b, o, none⟩ /\ b < w.heap.size /\ In W0 b o l := hA.imp id fun ⟨b, o, e, hb, hi⟩ => ⟨b, o, e, hb, hi.below hb hB0⟩
 refine wpIn_rangeFunc_ownH rfl (by omega) (gf := 190) (lb := #[.pointer (some ⟨w.heap.size + 1 + 1 + 1, 0, none⟩)]) rfl trivial (enters_of Tryz.func190 (by kernel_rfl) rfl)
  (Qe9 Fence.wide _ trivial rfl (by omega) (w.heap.size + 1 + 1 + 1) w.heap.size cap A l hl W0 (by omega) (by omega) (b3.cell rfl) hA') belowK_t (belowK_b (by omega)) (Below.refl _ _) (fun _ => rfl)
  (fun pre W => (∃ m, ascF next start (vals pre) = some m /\ Blk W (w.heap.size + 1 + 1) 3 #[.int .i64 m]) /\ Blk W (w.heap.size + 1) 4 #[.bool false] /\ Blk W w.heap.size 254 (Qap start next A l.length cap) /\ Below w.heap.size w W)
  (fun c pre W => c = .ret /\ ascF next start (vals pre) = none /\ Blk W (w.heap.size + 1) 4 #[.bool false] /\ Below w.heap.size w W)
  (fun s X Y row hs hg hr => by
   obtain ⟨⟨m, em, bL⟩, bR, bW, hB⟩ := hs
   exact ⟨⟨m, em, Qbh bL hg hr⟩, Qbh bR hg hr, Qbh bW hg hr, ownFrom_below (β := Unit) (Nat.le_refl _) (by omega) () X Y row hB hg hr⟩)
  (fun c s X Y row hs hg hr => by
   obtain ⟨hc, em, bR, hB⟩ := hs
   exact ⟨hc, em, Qbh bR hg hr, ownFrom_below (β := Unit) (Nat.le_refl _) (by omega) () X Y row hB hg hr⟩)
  ⟨⟨start, rfl, b2⟩, b1, b0, hB0⟩
  (fun x a' W => ∃ Bx, w.heap.size + 1 + 1 < Bx /\ Blk W Bx 225 (Qbf x.1.off x.1.key x.1.text x.1.who x.1.time) /\ a' = { tmps := #[.agg (Qap start next A l.length cap), .pointer (some ⟨w.heap.size, 0, none⟩), .pointer (some ⟨w.heap.size + 1, 0, none⟩), .pointer (some ⟨w.heap.size + 1 + 1, 0, none⟩), .pointer (some ⟨Bx, 0, none⟩), undef, .pointer (some ⟨w.heap.size, 0, none⟩), .int .i64 start, .agg (Qap start next A l.length cap), .func (.func 190) #[] #[.pointer (some ⟨w.heap.size + 1 + 1 + 1, 0, none⟩)], x.1.v, undef, undef, undef, undef, undef, undef, undef, undef, undef, undef, undef, undef, undef, undef], defers := [] })
  (fun x a' _ X Y row hs hg hr => by obtain ⟨Bx, h1, h2, h3⟩ := hs; exact ⟨Bx, h1, Qbh h2 hg hr, h3⟩)
  ?assign ?body ?done ?stop
 case assign =>
  rintro l' pre x W K ⟨⟨m, em, bL⟩, bR, bW, hB⟩ hK
  dsimp only [It.v] at hK ⊢
  gi_wp2
  exact hK _ _ ((KeepsOthers.alloc _ _).from _) ((Below.refl _ W).alloc hB.size _) ⟨⟨m, em, bL.alloc _⟩, bR.alloc _, bW.alloc _, hB.alloc hB.size _⟩ ⟨W.heap.size, bL.lt, Blk.new W _ _, rfl⟩
 case body =>
  rintro l' pre x a' W hl' hr' ⟨⟨m, em, bL⟩, bR, bW, hB⟩ ⟨Bx, hBx, bX, rfl⟩ hlt
  obtain ⟨x0, x1, x2, x3, x4⟩ := bX.item
  obtain ⟨cS, cN, cI⟩ := bW.row
  obtain ⟨cL, fL⟩ := bL.one
  obtain ⟨cR, fR⟩ := bR.one
  have hm := number_of x.1
  have hsW := hB.size
  have q0 := bW.lt
  have q1 := bR.lt
  have q2 := bL.lt
  have qx := bX.lt
  dsimp only [It.v]
  have hstep := ascF_snoc next start (vals pre) x.1
  rw [em, ← Qgg] at hstep
  have Hs : Hid (ascF next start (vals (pre ++ [x])) = Qb0 next (some m) x.1) := hstep
  clear hstep
  by_cases h1 : x.1.off < m
  . gi_wp2_with (refine ⟨trivial, ?_⟩; gi_at_call 216; refine (CallsIn.inRound l' (callsIn_wide.2 (Qdq x.1 _))).mono ?_; rintro e w' ⟨rfl, rfl⟩)
    exact ⟨((KeepsOthers.setCell _ _ _).trans (KeepsOthers.alloc _ _)).from _, rfl, by rw [Hs.out]; simp [Qb0, h1], (bR.set _).alloc _, (hB.setCell (p := ⟨w.heap.size + 1, 0, none⟩) (by simp) _).alloc (by simpa using hsW) _⟩
  . by_cases h2 : next <= x.1.off
    . gi_wp2_with (refine ⟨trivial, ?_⟩; gi_at_call 216; refine (CallsIn.inRound l' (callsIn_wide.2 (Qdq x.1 _))).mono ?_; rintro e w' ⟨rfl, rfl⟩)
      exact ⟨((KeepsOthers.setCell _ _ _).trans (KeepsOthers.alloc _ _)).from _, rfl, by rw [Hs.out]; simp [Qb0, h2], (bR.set _).alloc _, (hB.setCell (p := ⟨w.heap.size + 1, 0, none⟩) (by simp) _).alloc (by simpa using hsW) _⟩
    . gi_wp2_with (refine ⟨trivial, ?_⟩; gi_at_call 216; refine (CallsIn.inRound l' (callsIn_wide.2 (Qdq x.1 _))).mono ?_; rintro e w' ⟨rfl, rfl⟩)
      exact ⟨((KeepsOthers.setCell _ _ _).trans (KeepsOthers.alloc _ _)).from _, ((Below.refl _ W).setCell (p := ⟨w.heap.size + 1 + 1, 0, none⟩) (by simp; omega) _).alloc (by simpa using hsW) _,
       ⟨_, by rw [Hs.out]; simp [Qb0, h1, h2], (bL.set _).alloc _⟩, (bR.other (by omega) _ _).alloc _, (bW.other (by omega) _ _).alloc _, (hB.setCell (p := ⟨w.heap.size + 1 + 1, 0, none⟩) (by simp; omega) _).alloc (by simpa using hsW) _⟩
 case done =>
  rintro D ys W hD hys ⟨⟨m, em, bL⟩, bR, bW, hB⟩ hK
  obtain ⟨cR, fR⟩ := bR.one
  gi_wp2
  have hK' := (KeepsOthers.setCell W ⟨w.heap.size + 1, 0, none⟩ (.bool true)).same D _ hK rfl
  refine ⟨by simp, .inl ⟨_, _, rfl, run_takeDeferred hK', ?_⟩⟩
  have hc5 := cell_kept (bR.set (.bool true)).one.1 (grownBy_putObj' _ D (.deferred none)) (fun r e => by cases e; exact ⟨_, hK', rfl⟩)
  refine ⟨.bool true, ?_, by rw [hys] at em; rw [em]; rfl, (hB.setCell (p := ⟨w.heap.size + 1, 0, none⟩) (by simp) _).trans (belowK_b (w := w) (Nat.le_refl _) _ D _ _ (by omega) hK' rfl rfl)⟩
  simp [results, Tryz.f180, go_sem, hc5]
 case stop =>
  rintro D c pre W hD hpre ⟨rfl, em, bR, hB⟩ hK
  gi_wp2
  refine ⟨by simp, .inl ⟨_, _, rfl, run_takeDeferred hK, ?_⟩⟩
  have hc5 := cell_kept bR.one.1 (grownBy_putObj' _ D (.deferred none)) (fun r e => by cases e; exact ⟨_, hK, rfl⟩)
  refine ⟨.bool false, ?_, by rw [ascF_none next start hpre em]; rfl, hB.trans (belowK_b (w := w) (Nat.le_refl _) W D _ _ (by omega) hK rfl rfl)⟩
  simp [results, Tryz.f180, go_sem, hc5]
end Go.Proofs.YtkmkldjipihceaaGreat.Items
