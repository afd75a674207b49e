/-
  The program's isRightItem and rowOf.ascends at this seat.
-/
import Derived.Test.YtglegpkcikacoaaGreatDoorTold
set_option linter.unusedVariables false
set_option linter.unusedSimpArgs false
set_option maxRecDepth 100000
set_option maxHeartbeats 8000000
namespace Go.Proofs.YtglegpkcikacoaaGreatDoor.Items
open ChangeShapes WideShapes ChangeAt RowKit Shelf Base
theorem Qek (off who time : Int) (k t : ByteArray) (hk : k.size <= 9223372036854775807) (ht : t.size <= 9223372036854775807) (w : World) :
 Calls Tryz.prog 145 #[.agg #[.int .i64 off, .string k, .string t, .int .i64 who, .int .i64 time]] w fun e w' => e = .returned (.bool (Qfx k t who time)) /\ Below w.heap.size w w' := by
 rcases four (textB k) (textB t) (inB who 0 3) (inB time 0 100000) with h1 | ⟨h1, h2⟩ | ⟨h1, h2, h3⟩ | ⟨h1, h2, h3, h4⟩ | ⟨h1, h2, h3, h4⟩
 all_goals
  go_enter Tryz.func145, Tryz.ntmps145
  have q1 : w.heap.size < w.heap.size + 1 := Nat.lt_succ_self _
  go_wp2_with (first
   | (go_at_call 44; refine (within_any _ _ _ _).mono ?_; rintro e w' ⟨rfl, rfl⟩)
   | (go_at_call_of 150 (Value.string k); refine (implText_any k hk _).mono ?_; rintro e w1 ⟨rfl, g1⟩; obtain ⟨c1, f1⟩ := Qaj g1; have s1 := g1.size; try simp at s1; have q1 : w.heap.size < w1.heap.size := by omega)
   | (go_at_call_of 150 (Value.string t); refine (implText_any t ht _).mono ?_; rintro e w1 ⟨rfl, g1⟩; obtain ⟨c1, f1⟩ := Qaj g1; have s1 := g1.size; try simp at s1; have q1 : w.heap.size < w1.heap.size := by omega))
  go_ret
  refine ⟨by simp [Qfx, *], ?_⟩
  repeat (first | exact Below.refl _ _ | refine via0 (by assumption) ?_ | refine Below.drew ?_ | refine Qaa ?_ _)
attribute [local go_sem] Oper.semAt_some
def Qb8 (next : Int) (s : Option Int) (x : It) : Option Int := s.bind fun m => if x.off < m ∨ next <= x.off then none else some (wrap64 (x.off + 1))
def ascF (next start : Int) (l : List It) : Option Int := l.foldl (Qb8 next) (some start)
theorem ascF_snoc (next start : Int) (l : List It) (x : It) : ascF next start (l ++ [x]) = Qb8 next (ascF next start l) x := by simp [ascF]
theorem ascF_none (next start : Int) {p l : List It} (h : p <+: l) (hn : ascF next start p = none) : ascF next start l = none := by
 obtain ⟨r, rfl⟩ := h
 unfold ascF at hn ⊢
 rw [List.foldl_append, hn]
 clear hn
 induction r with
 | nil => rfl
 | cons a r ih => exact ih
theorem Blk.item {W : World} {B : Nat} {t : TypeId} {a b c d e : Value} (h : Blk W B t #[a, b, c, d, e]) :
 W.cell? ⟨B, 0, none⟩ = some a /\ W.cell? ⟨B, 1, none⟩ = some b /\ W.cell? ⟨B, 2, none⟩ = some c /\ W.cell? ⟨B, 3, none⟩ = some d /\ W.cell? ⟨B, 4, none⟩ = some e :=
 ⟨h.cell rfl, h.cell rfl, h.cell rfl, h.cell rfl, h.cell rfl⟩
theorem Blk.row {W : World} {B : Nat} {t : TypeId} {a b c : Value} (h : Blk W B t #[a, b, c]) :
 W.cell? ⟨B, 0, none⟩ = some a /\ W.cell? ⟨B, 1, none⟩ = some b /\ W.cell? ⟨B, 2, none⟩ = some c :=
 ⟨h.cell rfl, h.cell rfl, h.cell rfl⟩
theorem Blk.one {W : World} {B : Nat} {t : TypeId} {a : Value} (h : Blk W B t #[a]) : W.cell? ⟨B, 0, none⟩ = some a /\ W.frozen? ⟨B, 0, none⟩ = false :=
 ⟨h.cell rfl, (show Boxed W B t a from h).frozen⟩
theorem Blk.set {W : World} {B : Nat} {t : TypeId} {a : Value} (h : Blk W B t #[a]) (v : Value) : Blk (W.setCell ⟨B, 0, none⟩ v) B t #[v] := (show Boxed W B t a from h).set v
theorem number_of (x : It) (w : World) : (method 450 136 (.agg #[.int .i64 x.off, .string x.key, .string x.text, .int .i64 x.who, .int .i64 x.time]) "loop.example/g00393/impl.number").run Tryz.prog w = .ok (277, .agg #[.int .i64 x.off, .string x.key, .string x.text, .int .i64 x.who, .int .i64 x.time]) w := by kernel_rfl
theorem Qd8 (x : It) (w : World) : Calls Tryz.prog 277 #[.agg #[.int .i64 x.off, .string x.key, .string x.text, .int .i64 x.who, .int .i64 x.time]] w
 fun e w' => e = .returned (.int .i64 x.off) /\ w' = w.alloc (.cells #[.int .i64 x.off, .string x.key, .string x.text, .int .i64 x.who, .int .i64 x.time] 136) := by
 go_enter Tryz.func277, Tryz.ntmps277
 go_wp2
 go_ret
 exact ⟨rfl, rfl⟩
theorem Qbl {B C : Nat} {t : TypeId} {vs : Array Value} {X Y : World} {row : Option Nat} (h : Blk X C t vs) (hg : X.grownBy Y row) (hr : ∀ r, row = some r -> B <= r /\ ∃ o : Obj, X.heap[r]? = some o /\ o.isCells = false) : Blk Y C t vs :=
 blk_own C t (fun _ : Unit => vs) () X Y row h hg (fun r e => (hr r e).2)
theorem Qky (start next : Int) (A : Option Addr) (cap : Nat) (l : List It) (hl : l.length <= 2000000) (w : World) (hA : l = [] ∨ ∃ b o, A = some ⟨b, o, none⟩ /\ b < w.heap.size /\ In w b o l) :
 Calls Tryz.prog 143 #[.agg #[.int .i64 start, .int .i64 next, .slice A l.length cap]] w fun e w' => e = .returned (.bool (ascF next start l).isSome) /\ Below w.heap.size w w' := by
 refine (callsIn_wide (n := 9)).1 ?_
 refine callsIn_of_wp_marks Tryz.func143 rfl trivial ?_ rfl
 simp only [Tryz.ntmps143]
 simp only [List.size_toArray, List.length_cons, List.length_nil, Nat.reduceAdd, Nat.reduceSub, Array.replicate_succ, Array.replicate_zero, List.push_toArray, List.append_toArray, List.nil_append, List.cons_append]
 gi_wp2_with (refine ⟨trivial, ?_⟩; gi_at_call 176; refine (told_in Fence.wide _ trivial rfl _ _ _ _ _ _).mono ?_; rintro e w' ⟨rfl, rfl⟩)
 have b0 := (((Blk.new w 133 #[.int .i64 start, .int .i64 next, .slice A l.length cap]).alloc (.cells #[.bool false] 4)).alloc (.cells #[.int .i64 start] 3)).alloc (.cells #[.int .i64 start, .int .i64 next, .slice A l.length cap] 133)
 have b1 := ((Blk.new (w.alloc (.cells #[.int .i64 start, .int .i64 next, .slice A l.length cap] 133)) 4 #[.bool false]).alloc (.cells #[.int .i64 start] 3)).alloc (.cells #[.int .i64 start, .int .i64 next, .slice A l.length cap] 133)
 have b2 := (Blk.new ((w.alloc (.cells #[.int .i64 start, .int .i64 next, .slice A l.length cap] 133)).alloc (.cells #[.bool false] 4)) 3 #[.int .i64 start]).alloc (.cells #[.int .i64 start, .int .i64 next, .slice A l.length cap] 133)
 have b3 := Blk.new (((w.alloc (.cells #[.int .i64 start, .int .i64 next, .slice A l.length cap] 133)).alloc (.cells #[.bool false] 4)).alloc (.cells #[.int .i64 start] 3)) 133 #[.int .i64 start, .int .i64 next, .slice A l.length cap]
 have hB0 : Below w.heap.size w ((((w.alloc (.cells #[.int .i64 start, .int .i64 next, .slice A l.length cap] 133)).alloc (.cells #[.bool false] 4)).alloc (.cells #[.int .i64 start] 3)).alloc (.cells #[.int .i64 start, .int .i64 next, .slice A l.length cap] 133)) := ((((Below.refl _ w).alloc (Nat.le_refl _) _).alloc (by simp) _).alloc (by simp; omega) _).alloc (by simp; omega) _
 have hsz : ((((w.alloc (.cells #[.int .i64 start, .int .i64 next, .slice A l.length cap] 133)).alloc (.cells #[.bool false] 4)).alloc (.cells #[.int .i64 start] 3)).alloc (.cells #[.int .i64 start, .int .i64 next, .slice A l.length cap] 133)).heap.size = w.heap.size + 4 := by simp
 simp only [World.size_alloc] at b1 b2 b3
 generalize ((((w.alloc (.cells #[.int .i64 start, .int .i64 next, .slice A l.length cap] 133)).alloc (.cells #[.bool false] 4)).alloc (.cells #[.int .i64 start] 3)).alloc (.cells #[.int .i64 start, .int .i64 next, .slice A l.length cap] 133)) = W0 at b0 b1 b2 b3 hB0 hsz ⊢
 have hA' : l = [] ∨ ∃ b o, A = some ⟨b, o, none⟩ /\ b < w.heap.size /\ In W0 b o l := hA.imp id fun ⟨b, o, e, hb, hi⟩ => ⟨b, o, e, hb, hi.below hb hB0⟩
 refine wpIn_rangeFunc_ownH rfl (by omega) (gf := 204) (lb := #[.pointer (some ⟨w.heap.size + 1 + 1 + 1, 0, none⟩)]) rfl trivial (enters_of Tryz.func204 (by kernel_rfl) rfl)
  (Qgj Fence.wide _ trivial rfl (by omega) (w.heap.size + 1 + 1 + 1) w.heap.size cap A l hl W0 (by omega) (by omega) (b3.cell rfl) hA') belowK_t (belowK_b (by omega)) (Below.refl _ _) (fun _ => rfl)
  (fun pre W => (∃ m, ascF next start (vals pre) = some m /\ Blk W (w.heap.size + 1 + 1) 3 #[.int .i64 m]) /\ Blk W (w.heap.size + 1) 4 #[.bool false] /\ Blk W w.heap.size 133 #[.int .i64 start, .int .i64 next, .slice A l.length cap] /\ Below w.heap.size w W)
  (fun c pre W => c = .ret /\ ascF next start (vals pre) = none /\ Blk W (w.heap.size + 1) 4 #[.bool false] /\ Below w.heap.size w W)
  (fun s X Y row hs hg hr => by
   obtain ⟨⟨m, em, bL⟩, bR, bW, hB⟩ := hs
   exact ⟨⟨m, em, Qbl bL hg hr⟩, Qbl bR hg hr, Qbl bW hg hr, ownFrom_below (β := Unit) (Nat.le_refl _) (by omega) () X Y row hB hg hr⟩)
  (fun c s X Y row hs hg hr => by
   obtain ⟨hc, em, bR, hB⟩ := hs
   exact ⟨hc, em, Qbl bR hg hr, ownFrom_below (β := Unit) (Nat.le_refl _) (by omega) () X Y row hB hg hr⟩)
  ⟨⟨start, rfl, b2⟩, b1, b0, hB0⟩
  (fun x a' W => ∃ Bx, w.heap.size + 1 + 1 < Bx /\ Blk W Bx 136 #[.int .i64 x.1.off, .string x.1.key, .string x.1.text, .int .i64 x.1.who, .int .i64 x.1.time] /\ a' = { tmps := #[.agg #[.int .i64 start, .int .i64 next, .slice A l.length cap], .pointer (some ⟨w.heap.size, 0, none⟩), .pointer (some ⟨w.heap.size + 1, 0, none⟩), .pointer (some ⟨w.heap.size + 1 + 1, 0, none⟩), .pointer (some ⟨Bx, 0, none⟩), undef, .pointer (some ⟨w.heap.size, 0, none⟩), .int .i64 start, .agg #[.int .i64 start, .int .i64 next, .slice A l.length cap], .func (.func 204) #[] #[.pointer (some ⟨w.heap.size + 1 + 1 + 1, 0, none⟩)], x.1.v, undef, undef, undef, undef, undef, undef, undef, undef, undef, undef, undef, undef, undef, undef], defers := [] })
  (fun x a' _ X Y row hs hg hr => by obtain ⟨Bx, h1, h2, h3⟩ := hs; exact ⟨Bx, h1, Qbl h2 hg hr, h3⟩)
  ?assign ?body ?done ?stop
 case assign =>
  rintro l' pre x W K ⟨⟨m, em, bL⟩, bR, bW, hB⟩ hK
  dsimp only [It.v] at hK ⊢
  gi_wp2
  exact hK _ _ ((KeepsOthers.alloc _ _).from _) ((Below.refl _ W).alloc hB.size _) ⟨⟨m, em, bL.alloc _⟩, bR.alloc _, bW.alloc _, hB.alloc hB.size _⟩ ⟨W.heap.size, bL.lt, Blk.new W _ _, rfl⟩
 case body =>
  rintro l' pre x a' W hl' hr' ⟨⟨m, em, bL⟩, bR, bW, hB⟩ ⟨Bx, hBx, bX, rfl⟩ hlt
  obtain ⟨x0, x1, x2, x3, x4⟩ := bX.item
  obtain ⟨cS, cN, cI⟩ := bW.row
  obtain ⟨cL, fL⟩ := bL.one
  obtain ⟨cR, fR⟩ := bR.one
  have hm := number_of x.1
  have hsW := hB.size
  have q0 := bW.lt
  have q1 := bR.lt
  have q2 := bL.lt
  have qx := bX.lt
  dsimp only [It.v]
  have hstep := ascF_snoc next start (vals pre) x.1
  rw [em, ← Qht] at hstep
  have Hs : Hid (ascF next start (vals (pre ++ [x])) = Qb8 next (some m) x.1) := hstep
  clear hstep
  by_cases h1 : x.1.off < m
  . gi_wp2_with (refine ⟨trivial, ?_⟩; gi_at_call 277; refine (CallsIn.inRound l' (callsIn_wide.2 (Qd8 x.1 _))).mono ?_; rintro e w' ⟨rfl, rfl⟩)
    exact ⟨((KeepsOthers.setCell _ _ _).trans (KeepsOthers.alloc _ _)).from _, rfl, by rw [Hs.out]; simp [Qb8, h1], (bR.set _).alloc _, (hB.setCell (p := ⟨w.heap.size + 1, 0, none⟩) (by simp) _).alloc (by simpa using hsW) _⟩
  . by_cases h2 : next <= x.1.off
    . gi_wp2_with (refine ⟨trivial, ?_⟩; gi_at_call 277; refine (CallsIn.inRound l' (callsIn_wide.2 (Qd8 x.1 _))).mono ?_; rintro e w' ⟨rfl, rfl⟩)
      exact ⟨((KeepsOthers.setCell _ _ _).trans (KeepsOthers.alloc _ _)).from _, rfl, by rw [Hs.out]; simp [Qb8, h2], (bR.set _).alloc _, (hB.setCell (p := ⟨w.heap.size + 1, 0, none⟩) (by simp) _).alloc (by simpa using hsW) _⟩
    . gi_wp2_with (refine ⟨trivial, ?_⟩; gi_at_call 277; refine (CallsIn.inRound l' (callsIn_wide.2 (Qd8 x.1 _))).mono ?_; rintro e w' ⟨rfl, rfl⟩)
      exact ⟨((KeepsOthers.setCell _ _ _).trans (KeepsOthers.alloc _ _)).from _, ((Below.refl _ W).setCell (p := ⟨w.heap.size + 1 + 1, 0, none⟩) (by simp; omega) _).alloc (by simpa using hsW) _,
       ⟨_, by rw [Hs.out]; simp [Qb8, h1, h2], (bL.set _).alloc _⟩, (bR.other (by omega) _ _).alloc _, (bW.other (by omega) _ _).alloc _, (hB.setCell (p := ⟨w.heap.size + 1 + 1, 0, none⟩) (by simp; omega) _).alloc (by simpa using hsW) _⟩
 case done =>
  rintro D ys W hD hys ⟨⟨m, em, bL⟩, bR, bW, hB⟩ hK
  obtain ⟨cR, fR⟩ := bR.one
  gi_wp2
  have hK' := (KeepsOthers.setCell W ⟨w.heap.size + 1, 0, none⟩ (.bool true)).same D _ hK rfl
  refine ⟨by simp, .inl ⟨_, _, rfl, run_takeDeferred hK', ?_⟩⟩
  have hc5 := cell_kept (bR.set (.bool true)).one.1 (grownBy_putObj' _ D (.deferred none)) (fun r e => by cases e; exact ⟨_, hK', rfl⟩)
  refine ⟨.bool true, ?_, by rw [hys] at em; rw [em]; rfl, (hB.setCell (p := ⟨w.heap.size + 1, 0, none⟩) (by simp) _).trans (belowK_b (w := w) (Nat.le_refl _) _ D _ _ (by omega) hK' rfl rfl)⟩
  simp [results, Tryz.f143, go_sem, hc5]
 case stop =>
  rintro D c pre W hD hpre ⟨rfl, em, bR, hB⟩ hK
  gi_wp2
  refine ⟨by simp, .inl ⟨_, _, rfl, run_takeDeferred hK, ?_⟩⟩
  have hc5 := cell_kept bR.one.1 (grownBy_putObj' _ D (.deferred none)) (fun r e => by cases e; exact ⟨_, hK, rfl⟩)
  refine ⟨.bool false, ?_, by rw [ascF_none next start hpre em]; rfl, hB.trans (belowK_b (w := w) (Nat.le_refl _) W D _ _ (by omega) hK rfl rfl)⟩
  simp [results, Tryz.f143, go_sem, hc5]
attribute [local go_sem] Oper.semAt_some
theorem Qfd {W W' : World} (h : Below W.heap.size W W') : KeepsOthers W W' :=
 ⟨h.size, fun k o hk _ => (h.block k (Array.getElem?_eq_some_iff.1 hk).1).trans hk⟩
theorem Qkm (start next : Int) (A : Option Addr) (cap : Nat) (l : List It) (hl : l.length <= 2000000) (hs : ∀ x ∈ l, x.key.size <= 9223372036854775807 /\ x.text.size <= 9223372036854775807) (w : World) (hA : l = [] ∨ ∃ b o, A = some ⟨b, o, none⟩ /\ b < w.heap.size /\ In w b o l) :
 Calls Tryz.prog 144 #[.agg #[.int .i64 start, .int .i64 next, .slice A l.length cap], .func (.func 145) #[] #[]] w fun e w' => e = .returned (.bool (l.all Qdd)) /\ Below w.heap.size w w' := by
 refine (callsIn_wide (n := 9)).1 ?_
 refine callsIn_of_wp_marks Tryz.func144 rfl trivial ?_ rfl
 simp only [Tryz.ntmps144]
 simp only [List.size_toArray, List.length_cons, List.length_nil, Nat.reduceAdd, Nat.reduceSub, Array.replicate_succ, Array.replicate_zero, List.push_toArray, List.append_toArray, List.nil_append, List.cons_append]
 gi_wp2_with (refine ⟨trivial, ?_⟩; gi_at_call 176; refine (told_in Fence.wide _ trivial rfl _ _ _ _ _ _).mono ?_; rintro e w' ⟨rfl, rfl⟩)
 have b1 := ((Blk.new (w.alloc (.cells #[.int .i64 start, .int .i64 next, .slice A l.length cap] 133)) 163 #[.func (.func 145) #[] #[]]).alloc (.cells #[.bool false] 4)).alloc (.cells #[.int .i64 start, .int .i64 next, .slice A l.length cap] 133)
 have b2 := (Blk.new ((w.alloc (.cells #[.int .i64 start, .int .i64 next, .slice A l.length cap] 133)).alloc (.cells #[.func (.func 145) #[] #[]] 163)) 4 #[.bool false]).alloc (.cells #[.int .i64 start, .int .i64 next, .slice A l.length cap] 133)
 have b3 := Blk.new (((w.alloc (.cells #[.int .i64 start, .int .i64 next, .slice A l.length cap] 133)).alloc (.cells #[.func (.func 145) #[] #[]] 163)).alloc (.cells #[.bool false] 4)) 133 #[.int .i64 start, .int .i64 next, .slice A l.length cap]
 have hB0 : Below w.heap.size w ((((w.alloc (.cells #[.int .i64 start, .int .i64 next, .slice A l.length cap] 133)).alloc (.cells #[.func (.func 145) #[] #[]] 163)).alloc (.cells #[.bool false] 4)).alloc (.cells #[.int .i64 start, .int .i64 next, .slice A l.length cap] 133)) := ((((Below.refl _ w).alloc (Nat.le_refl _) _).alloc (by simp) _).alloc (by simp; omega) _).alloc (by simp; omega) _
 have hsz : ((((w.alloc (.cells #[.int .i64 start, .int .i64 next, .slice A l.length cap] 133)).alloc (.cells #[.func (.func 145) #[] #[]] 163)).alloc (.cells #[.bool false] 4)).alloc (.cells #[.int .i64 start, .int .i64 next, .slice A l.length cap] 133)).heap.size = w.heap.size + 4 := by simp
 simp only [World.size_alloc] at b1 b2 b3
 generalize ((((w.alloc (.cells #[.int .i64 start, .int .i64 next, .slice A l.length cap] 133)).alloc (.cells #[.func (.func 145) #[] #[]] 163)).alloc (.cells #[.bool false] 4)).alloc (.cells #[.int .i64 start, .int .i64 next, .slice A l.length cap] 133)) = W0 at b1 b2 b3 hB0 hsz ⊢
 have hA' : l = [] ∨ ∃ b o, A = some ⟨b, o, none⟩ /\ b < w.heap.size /\ In W0 b o l := hA.imp id fun ⟨b, o, e, hb, hi⟩ => ⟨b, o, e, hb, hi.below hb hB0⟩
 refine wpIn_rangeFunc_ownH rfl (by omega) (gf := 204) (lb := #[.pointer (some ⟨w.heap.size + 1 + 1 + 1, 0, none⟩)]) rfl trivial (enters_of Tryz.func204 (by kernel_rfl) rfl)
  (Qgj Fence.wide _ trivial rfl (by omega) (w.heap.size + 1 + 1 + 1) w.heap.size cap A l hl W0 (by omega) (by omega) (b3.cell rfl) hA') belowK_t (belowK_b (by omega)) (Below.refl _ _) (fun _ => rfl)
  (fun pre W => (vals pre).all Qdd = true /\ Blk W (w.heap.size + 1 + 1) 4 #[.bool false] /\ Blk W (w.heap.size + 1) 163 #[.func (.func 145) #[] #[]] /\ Below w.heap.size w W)
  (fun c pre W => c = .ret /\ (vals pre).all Qdd = false /\ Blk W (w.heap.size + 1 + 1) 4 #[.bool false] /\ Below w.heap.size w W)
  (fun s X Y row hs hg hr => by
   obtain ⟨em, bR, bF, hB⟩ := hs
   exact ⟨em, Qbl bR hg hr, Qbl bF hg hr, ownFrom_below (β := Unit) (Nat.le_refl _) (by omega) () X Y row hB hg hr⟩)
  (fun c s X Y row hs hg hr => by
   obtain ⟨hc, em, bR, hB⟩ := hs
   exact ⟨hc, em, Qbl bR hg hr, ownFrom_below (β := Unit) (Nat.le_refl _) (by omega) () X Y row hB hg hr⟩)
  ⟨rfl, b2, b1, hB0⟩
  (fun x a' W => ∃ Bx, w.heap.size + 1 + 1 < Bx /\ Blk W Bx 136 #[.int .i64 x.1.off, .string x.1.key, .string x.1.text, .int .i64 x.1.who, .int .i64 x.1.time] /\ a' = { tmps := #[.agg #[.int .i64 start, .int .i64 next, .slice A l.length cap], .func (.func 145) #[] #[], .pointer (some ⟨w.heap.size, 0, none⟩), .pointer (some ⟨w.heap.size + 1, 0, none⟩), .pointer (some ⟨w.heap.size + 1 + 1, 0, none⟩), .pointer (some ⟨Bx, 0, none⟩), .agg #[.int .i64 start, .int .i64 next, .slice A l.length cap], .func (.func 204) #[] #[.pointer (some ⟨w.heap.size + 1 + 1 + 1, 0, none⟩)], x.1.v, undef, undef, undef, undef], defers := [] })
  (fun x a' _ X Y row hs hg hr => by obtain ⟨Bx, h1, h2, h3⟩ := hs; exact ⟨Bx, h1, Qbl h2 hg hr, h3⟩)
  ?assign ?body ?done ?stop
 case assign =>
  rintro l' pre x W K ⟨em, bR, bF, hB⟩ hK
  dsimp only [It.v] at hK ⊢
  gi_wp2
  exact hK _ _ ((KeepsOthers.alloc _ _).from _) ((Below.refl _ W).alloc hB.size _) ⟨em, bR.alloc _, bF.alloc _, hB.alloc hB.size _⟩ ⟨W.heap.size, bR.lt, Blk.new W _ _, rfl⟩
 case body =>
  rintro l' pre x a' W hl' hr' ⟨em, bR, bF, hB⟩ ⟨Bx, hBx, bX, rfl⟩ hlt
  obtain ⟨x0, x1, x2, x3, x4⟩ := bX.item
  obtain ⟨cF, fF⟩ := bF.one
  obtain ⟨cR, fR⟩ := bR.one
  have hsW := hB.size
  have q1 := bR.lt
  have q2 := bF.lt
  have qx := bX.lt
  obtain ⟨hk, ht⟩ := hs x.1 x.2
  dsimp only [It.v]
  have Hs : Hid ((vals (pre ++ [x])).all Qdd = Qfx x.1.key x.1.text x.1.who x.1.time) := by show (vals (pre ++ [x])).all Qdd = _; rw [Qht, List.all_append, em]; simp [Qdd]
  cases h1 : Qfx x.1.key x.1.text x.1.who x.1.time
  . gi_wp2_with (refine ⟨trivial, ?_⟩; gi_at_call 145; refine (CallsIn.inRound l' (callsIn_wide.2 (Qek _ _ _ _ _ hk ht _))).mono ?_; rintro e w1 ⟨rfl, g1⟩; have bR1 := bR.below g1 q1; obtain ⟨cR1, fR1⟩ := bR1.one; rw [h1])
    exact ⟨((Qfd g1).trans (KeepsOthers.setCell _ _ _)).from _, rfl, Hs.out.trans h1, bR1.set _, (hB.trans (g1.mono hsW)).setCell (p := ⟨w.heap.size + 1 + 1, 0, none⟩) (by simp; omega) _⟩
  . gi_wp2_with (refine ⟨trivial, ?_⟩; gi_at_call 145; refine (CallsIn.inRound l' (callsIn_wide.2 (Qek _ _ _ _ _ hk ht _))).mono ?_; rintro e w1 ⟨rfl, g1⟩; have bR1 := bR.below g1 q1; obtain ⟨cR1, fR1⟩ := bR1.one; rw [h1])
    exact ⟨(Qfd g1).from _, g1.mono hsW, Hs.out.trans h1, bR1, bF.below g1 q2, hB.trans (g1.mono hsW)⟩
 case done =>
  rintro D ys W hD hys ⟨em, bR, bF, hB⟩ hK
  obtain ⟨cR, fR⟩ := bR.one
  gi_wp2
  have hK' := (KeepsOthers.setCell W ⟨w.heap.size + 1 + 1, 0, none⟩ (.bool true)).same D _ hK rfl
  refine ⟨by simp, .inl ⟨_, _, rfl, run_takeDeferred hK', ?_⟩⟩
  have hc5 := cell_kept (bR.set (.bool true)).one.1 (grownBy_putObj' _ D (.deferred none)) (fun r e => by cases e; exact ⟨_, hK', rfl⟩)
  refine ⟨.bool true, ?_, by rw [hys] at em; rw [em], (hB.setCell (p := ⟨w.heap.size + 1 + 1, 0, none⟩) (by simp; omega) _).trans (belowK_b (w := w) (Nat.le_refl _) _ D _ _ (by omega) hK' rfl rfl)⟩
  simp [results, Tryz.f144, go_sem, hc5]
 case stop =>
  rintro D c pre W hD hpre ⟨rfl, em, bR, hB⟩ hK
  gi_wp2
  refine ⟨by simp, .inl ⟨_, _, rfl, run_takeDeferred hK, ?_⟩⟩
  have hc5 := cell_kept bR.one.1 (grownBy_putObj' _ D (.deferred none)) (fun r e => by cases e; exact ⟨_, hK, rfl⟩)
  have hall : l.all Qdd = false := by obtain ⟨r, hr⟩ := hpre; rw [← hr, List.all_append, em]; rfl
  refine ⟨.bool false, ?_, by rw [hall], hB.trans (belowK_b (w := w) (Nat.le_refl _) W D _ _ (by omega) hK rfl rfl)⟩
  simp [results, Tryz.f144, go_sem, hc5]
theorem five (p q r s t : Bool) : p = false ∨ (p = true /\ q = false) ∨ (p = true /\ q = true /\ r = false) ∨ (p = true /\ q = true /\ r = true /\ s = false) ∨ (p = true /\ q = true /\ r = true /\ s = true /\ t = false) ∨ (p = true /\ q = true /\ r = true /\ s = true /\ t = true) := by
 cases p<;>cases q<;>cases r<;>cases s<;>cases t<;>simp
def okB (start next : Int) (l : List It) : Bool := inB next 0 100000 && inB start 0 next && decide ((l.length : Int) <= 80) && (ascF next start l).isSome && l.all Qdd
theorem Qi4 (start next : Int) (A : Option Addr) (cap : Nat) (l : List It) (hl : l.length <= 2000000) (hs : ∀ x ∈ l, x.key.size <= 9223372036854775807 /\ x.text.size <= 9223372036854775807) (w : World) (hA : l = [] ∨ ∃ b o, A = some ⟨b, o, none⟩ /\ b < w.heap.size /\ In w b o l) :
 Calls Tryz.prog 101 #[.agg #[.int .i64 start, .int .i64 next, .slice A l.length cap]] w fun e w' => e = .returned (.bool (okB start next l)) /\ Below w.heap.size w w' := by
 have Hs : Hid (∀ x ∈ l, x.key.size <= 9223372036854775807 /\ x.text.size <= 9223372036854775807) := hs
 have HA : Hid (l = [] ∨ ∃ b o, A = some ⟨b, o, none⟩ /\ b < w.heap.size /\ In w b o l) := hA
 have hat : ∀ w1, Below w.heap.size w w1 -> (l = [] ∨ ∃ b o, A = some ⟨b, o, none⟩ /\ b < w1.heap.size /\ In w1 b o l) := fun w1 gB => hA.imp id fun ⟨b, o, e, hb, hi⟩ => ⟨b, o, e, Nat.lt_of_lt_of_le hb gB.size, hi.below hb gB⟩
 have Hat : Hid (∀ w1, Below w.heap.size w w1 -> (l = [] ∨ ∃ b o, A = some ⟨b, o, none⟩ /\ b < w1.heap.size /\ In w1 b o l)) := hat
 clear hA hs hat
 rcases five (inB next 0 100000) (inB start 0 next) (decide ((l.length : Int) <= 80)) (ascF next start l).isSome (l.all Qdd) with h1 | ⟨h1, h2⟩ | ⟨h1, h2, h3⟩ | ⟨h1, h2, h3, h4⟩ | ⟨h1, h2, h3, h4, h5⟩ | ⟨h1, h2, h3, h4, h5⟩
 all_goals
  have hv : Hid (okB start next l = (inB next 0 100000 && inB start 0 next && decide ((l.length : Int) <= 80) && (ascF next start l).isSome && l.all Qdd)) := rfl
  go_enter Tryz.func101, Tryz.ntmps101
  have q1 : w.heap.size < w.heap.size + 1 := Nat.lt_succ_self _
  go_wp2_with (first
   | (go_at_call 44; refine (within_any _ _ _ _).mono ?_; rintro e w' ⟨rfl, rfl⟩)
   | (go_at_call 143; refine (Qky start next A cap l hl _ (Hat.out _ ((Below.refl _ w).alloc (Nat.le_refl _) _))).mono ?_; rintro e w1 ⟨rfl, g1⟩; obtain ⟨c1, f1⟩ := Qaj g1; have s1 := g1.size; have gB : Below w.heap.size w w1 := via0 g1 ((Below.refl _ w).alloc (Nat.le_refl _) _); have q1 : w.heap.size < w1.heap.size := Nat.lt_of_lt_of_le (by simp) s1)
   | (go_at_call 144; go_loud (refine (Qkm start next A cap l hl Hs.out _ (Hat.out _ (by assumption))).mono ?_; rintro e w2 ⟨rfl, g2⟩)))
  go_ret
  refine ⟨by rw [hv.out]; simp [*], ?_⟩
  repeat (first | exact Below.refl _ _ | refine via0 (by assumption) ?_ | refine Below.drew ?_ | refine Qaa ?_ _)
theorem wrap_small {a : Int} (h1 : 0 <= a) (h2 : a <= 1000000) : wrap64 a = a := by unfold wrap64; omega
def ahead (p : Option Int) (x : Int) : Bool := match p with | none => true | some o => decide (o < x)
theorem Qjn (start next : Int) (hn : next <= 100000) (hs : 0 <= start) : ∀ (l : List It) (p : Option Int) (m : Int), (p = none /\ m = start) ∨ (∃ o, p = some o /\ m = o + 1 /\ start <= o) ->
 ((l.foldl (Qb8 next) (some m)).isSome && l.all Qdd) = chain start (next - 1) p l
 | [], p, m, _ => rfl
 | x :: l, p, m, h => by
  have none_fold : ∀ r : List It, r.foldl (Qb8 next) none = none := fun r => by induction r with | nil => rfl | cons a r ih => exact ih
  have ec : chain start (next - 1) p (x :: l) = (Qdd x && inB x.off start (next - 1) && ahead p x.off && chain start (next - 1) (some x.off) l) := by cases p<;>rfl
  rw [List.foldl_cons, List.all_cons, ec]
  by_cases hc : x.off < m ∨ next <= x.off
  . have e1 : Qb8 next (some m) x = none := by simp [Qb8, hc]
    rw [e1, none_fold]
    have e2 : (inB x.off start (next - 1) && ahead p x.off) = false := by
     rcases h with ⟨rfl, rfl⟩ | ⟨o, rfl, rfl, _⟩
     . simp [inB, ahead]; omega
     . simp [inB, ahead]; omega
    cases hi : Qdd x<;>simp_all [Bool.and_assoc]
  . have e1 : Qb8 next (some m) x = some (x.off + 1) := by
     have hw : wrap64 (x.off + 1) = x.off + 1 := wrap_small (by rcases h with ⟨rfl, rfl⟩ | ⟨o, rfl, rfl, _⟩<;>omega) (by omega)
     simp [Qb8, hc, hw]
    have e2 : inB x.off start (next - 1) = true := by
     rcases h with ⟨rfl, rfl⟩ | ⟨o, rfl, rfl, _⟩<;>simp [inB]<;>omega
    have e3 : ahead p x.off = true := by
     rcases h with ⟨rfl, rfl⟩ | ⟨o, rfl, rfl, _⟩
     . rfl
     . simp [ahead]; omega
    rw [e1, e2, e3, ← Qjn start next hn hs l (some x.off) (x.off + 1) (.inr ⟨x.off, rfl, rfl, by rcases h with ⟨rfl, rfl⟩ | ⟨o, rfl, rfl, _⟩<;>omega⟩)]
    cases Qdd x<;>simp
theorem okB_row (start next : Int) (l : List It) : okB start next l = rowB start next l := by
 unfold okB rowB
 by_cases h : (0 <= start /\ start <= next) /\ next <= 100000
 . have e := Qjn start next h.2 h.1.1 l none start (.inl ⟨rfl, rfl⟩)
   have e1 : inB next 0 100000 = true := by simp [inB]; omega
   have e2 : inB start 0 next = true := by simp [inB]; omega
   have e3 : decide (next <= 100000) = true := by simp; omega
   have e4 : Qah start (next - 1) l 0 = chain start (next - 1) none l := rfl
   have e5 : decide ((l.length : Int) <= 80) = decide (l.length <= 80) := decide_eq_decide.2 (by omega)
   rw [e1, e2, e3, e4, ← e, e5]
   unfold ascF
   cases decide (l.length <= 80)<;>simp
 . have e : (inB start 0 next && decide (next <= 100000)) = false := by
    simp only [inB, Bool.and_eq_false_iff, decide_eq_false_iff_not]; omega
   have e' : (inB next 0 100000 && inB start 0 next) = false := by
    simp only [inB, Bool.and_eq_false_iff, decide_eq_false_iff_not]; omega
   rw [e', Bool.and_assoc (Qah start (next - 1) l 0), e]
   simp
theorem implRowOk_any (start next : Int) (A : Option Addr) (cap : Nat) (l : List It) (hl : l.length <= 2000000) (hs : ∀ x ∈ l, x.key.size <= 9223372036854775807 /\ x.text.size <= 9223372036854775807) (w : World) (hA : l = [] ∨ ∃ b o, A = some ⟨b, o, none⟩ /\ b < w.heap.size /\ In w b o l) :
 Calls Tryz.prog 101 #[.agg #[.int .i64 start, .int .i64 next, .slice A l.length cap]] w fun e w' => e = .returned (.bool (rowB start next l)) /\ Below w.heap.size w w' := by
 rw [← okB_row]
 exact Qi4 start next A cap l hl hs w hA
theorem Blk.thaw {W : World} {B : Nat} {t : TypeId} {vs : Array Value} (h : Blk W B t vs) (i : Nat) : W.frozen? ⟨B, i, none⟩ = false := by simp [World.frozen?, show W.heap[B]? = _ from h]
theorem Blk.setAt {W : World} {B : Nat} {t : TypeId} {vs : Array Value} (h : Blk W B t vs) (i : Nat) (v : Value) : Blk (W.setCell ⟨B, i, none⟩ v) B t (vs.setIfInBounds i v) := by
 obtain ⟨hlt, hk⟩ := Array.getElem?_eq_some_iff.1 h
 show (W.heap.modify B _)[B]? = _
 rw [Array.getElem?_eq_getElem (by rw [Array.size_modify]; exact hlt), Array.getElem_modify_self, hk]
 rfl
theorem Blk.drew {W : World} {B : Nat} {t : TypeId} {vs : Array Value} (h : Blk W B t vs) : Blk W.drew B t vs := h
theorem Qam {n : Nat} {a b : World} (h : Below n a b) {B i : Nat} (hn : n <= B) (v : Value) : Below n a (b.setCell ⟨B, i, none⟩ v) := h.setCell (p := ⟨B, i, none⟩) hn v
def zeroItem : Value := .agg #[.int .i64 0, .string ⟨#[]⟩, .string ⟨#[]⟩, .int .i64 0, .int .i64 0]
def zeros (n : Nat) : Array Value := madeCells zeroItem.cells (n * 5)
theorem zeros_size (n : Nat) : (zeros n).size = n * 5 := size_madeCells _ _
theorem Qcn {w : World} {b o : Nat} {xs ys : List Value} (h1 : w.rangeAt b o xs) (h2 : w.rangeAt b (o + xs.length) ys) : w.rangeAt b o (xs ++ ys) := fun j v hv => by
 by_cases hj : j < xs.length
 . exact h1 j v (by rwa [List.getElem?_append_left hj] at hv)
 . rw [List.getElem?_append_right (by omega)] at hv
   have := h2 (j - xs.length) v hv
   have e : o + xs.length + (j - xs.length) = o + j := by omega
   rwa [e] at this
theorem Qdq {w w' : World} {b o n : Nat} (h : w.there b o n) (hb : b < w.heap.size) (hw : Below w.heap.size w w') : w'.there b o n := fun j hj => by
 rw [hw.cell (p := ⟨b, o + j, none⟩) hb, hw.frozen (p := ⟨b, o + j, none⟩) hb]
 exact h j hj
theorem Qdg (w : World) (n : Nat) : (w.alloc (.cells (zeros n) 136)).there w.heap.size 0 (n * 5) := fun j hj => by
 have : j < (zeros n).size := by rw [zeros_size]; exact hj
 simp [this]
theorem In.set {w : World} {b o : Nat} {l : List It} (h : In w b o l) (p : Addr) (v : Value) (hp : p.block ≠ b) : In (w.setCell p v) b o l := fun j u hu => by
 rw [World.cell?_setCell_other (h := fun e => hp (by rw [e]))]; exact h j u hu
theorem Qhy {w : World} {b o n : Nat} (h : w.there b o n) (b' o' : Nat) (v : Value) : (w.setCell ⟨b', o', none⟩ v).there b o n := World.there_setCells h b' o' [v]
def Fresh (B : Nat) (w : World) (v : Value) (l : List It) : Prop :=
  ∃ (A : Option Addr) (c : Nat), v = .slice A l.length c /\ l.length <= c /\ (l = [] ∨ ∃ b o, A = some ⟨b, o, none⟩ /\ B <= b /\ b < w.heap.size /\ In w b o l /\ w.there b o (l.length * 5))
end Go.Proofs.YtglegpkcikacoaaGreatDoor.Items
