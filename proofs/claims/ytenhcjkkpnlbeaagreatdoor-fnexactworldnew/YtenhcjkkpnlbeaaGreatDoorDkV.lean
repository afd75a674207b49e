/-
  Disks: what the laws' sz, to, eq, mark and held functions of them do; a disk opened. No condition but that there are at most 1048576 bytes.
-/
import Derived.Test.YtenhcjkkpnlbeaaGreatDoorBools
import Derived.Conc.MuLone
set_option linter.unusedVariables false
set_option linter.unusedSimpArgs false
set_option maxRecDepth 100000
set_option maxHeartbeats 8000000
namespace Go.Proofs.YtenhcjkkpnlbeaaGreatDoor.Gen
open ChangeShapes WideShapes ChangeAt RowKit Joins Deep Base
theorem At.hidB {w : World} {A : Option Addr} {l : List UInt8} (hA : At w A l) : Hid (∀ W : World, Below w.heap.size w W -> At W A l) := fun W hW => hA.below hW
theorem Qm6 (su : Int) (A A' : Option Addr) (cap cap' : Nat) (l : List UInt8) (hl : l.length <= 9223372036854775807) (w : World) (hA : At w A l) (hA' : At w A' l) :
 Calls Tryz.prog 100 #[.agg #[.slice A l.length cap, .int .i64 su], .agg #[.slice A' l.length cap', .int .i64 su]] w fun e w' => e = .returned (.bool true) /\ Below w.heap.size w w' := by
 have HA := hA.hidB
 have HA' := hA'.hidB
 clear hA hA'
 go_enter Tryz.func100, Tryz.ntmps100
 go_wp2_with (go_at_call 147; refine (eqB_same A A' cap cap' l hl _ (HA.out _ ?_) (HA'.out _ ?_)).mono ?_; (repeat (first | exact Below.refl _ _ | assumption | refine via0 (by assumption) ?_ | refine Below.drew ?_ | refine Qab ?_ _)); (repeat (first | exact Below.refl _ _ | assumption | refine via0 (by assumption) ?_ | refine Below.drew ?_ | refine Qab ?_ _)); rintro e w1 ⟨rfl, g1⟩; obtain ⟨k1, m1⟩ := Qax g1)
 go_ret
 refine ⟨rfl, ?_⟩
 repeat (first | exact Below.refl _ _ | assumption | refine via0 (by assumption) ?_ | refine Below.drew ?_ | refine Qab ?_ _)
theorem Qmq (a : Option Addr) (c : Nat) (L : List UInt8) (F : List Nat) (hL : L.length <= 3000000) (k : Int) (hk : 1 <= k) (hk' : k <= 100000000) (w : World) (h : Sl w a L F) :
 Calls Tryz.prog 61 #[.slice a L.length c, .int .i64 k] w fun e w' => e = .returned (.int .i64 (k + (L.length : Int))) /\ Off F w w' /\ Sl w' a (Qcv L.length k) F := by
 rcases h with ⟨rfl, rfl⟩ | ⟨b, o, rfl, rfl, hb, hi, ht⟩
 . refine (markB_none a c k w).mono ?_
   rintro e w' ⟨rfl, rfl⟩
   exact ⟨by simp, Off.refl _ _, .inl ⟨rfl, rfl⟩⟩
 . refine (markB_any b o c L.length k hk hk' (by omega) w hb ht).mono ?_
   rintro e w' ⟨rfl, h1, h2, h3⟩
   refine ⟨rfl, Off.of_only h1, .inr ⟨b, o, rfl, rfl, Nat.lt_of_lt_of_le hb h1.size, h2, ?_⟩⟩
   rw [Qcl]
   exact h3
end Go.Proofs.YtenhcjkkpnlbeaaGreatDoor.Gen
namespace Go.Proofs.YtenhcjkkpnlbeaaGreatDoor.Gen
open ChangeShapes WideShapes ChangeAt RowKit Joins Deep Base
def inB (x lo hi : Int) : Bool := decide (lo <= x /\ x <= hi)
theorem within_any (x lo hi : Int) (w : World) :
 Calls Tryz.prog 76 (Qbt x lo hi) w fun e w' => e = .returned (.bool (inB x lo hi)) /\ w' = w := by
 by_cases h1 : lo <= x
 . by_cases h2 : x <= hi
   . have e : Hid (inB x lo hi = true) := by show _ = _; simp [inB, h1, h2]
     go_enter Tryz.func76, Tryz.ntmps76
     go_wp2
     go_ret
     exact ⟨by rw [e.out]; rfl, rfl⟩
   . have e : Hid (inB x lo hi = false) := by show _ = _; simp [inB, h2]
     have h2' : decide (x <= hi) = false := decide_eq_false h2
     go_enter Tryz.func76, Tryz.ntmps76
     go_wp2
     go_ret
     exact ⟨by rw [e.out]; first | rfl | (rw [← h2']; rfl), rfl⟩
 . have e : Hid (inB x lo hi = false) := by show _ = _; simp [inB, h1]
   go_enter Tryz.func76, Tryz.ntmps76
   go_wp2
   go_ret
   exact ⟨by rw [e.out]; rfl, rfl⟩
theorem in_any (x lo hi : Int) (w : World) :
 Calls Tryz.prog 11 (Qbt x lo hi) w fun e w' => e = .returned (.bool (inB x lo hi)) /\ w' = w := by
 by_cases h1 : lo <= x
 . by_cases h2 : x <= hi
   . have e : Hid (inB x lo hi = true) := by show _ = _; simp [inB, h1, h2]
     go_enter Tryz.func11, Tryz.ntmps11
     go_wp2
     go_ret
     exact ⟨by rw [e.out]; rfl, rfl⟩
   . have e : Hid (inB x lo hi = false) := by show _ = _; simp [inB, h2]
     have h2' : decide (x <= hi) = false := decide_eq_false h2
     go_enter Tryz.func11, Tryz.ntmps11
     go_wp2
     go_ret
     exact ⟨by rw [e.out]; first | rfl | (rw [← h2']; rfl), rfl⟩
 . have e : Hid (inB x lo hi = false) := by show _ = _; simp [inB, h1]
   go_enter Tryz.func11, Tryz.ntmps11
   go_wp2
   go_ret
   exact ⟨by rw [e.out]; rfl, rfl⟩
end Go.Proofs.YtenhcjkkpnlbeaaGreatDoor.Gen
namespace Go.Proofs.YtenhcjkkpnlbeaaGreatDoor.Gen
open ChangeShapes WideShapes ChangeAt RowKit Joins Deep Base
def Qfu (su : Int) (n : Nat) : Bool := decide (n <= 80000) && inB su 0 (n : Int)
theorem Qhp (su : Int) (A : Option Addr) (n cap : Nat) (hn : n <= 9223372036854775807) (w : World) :
 Calls Tryz.prog 75 #[.agg #[.slice A n cap, .int .i64 su]] w fun e w' => e = .returned (.bool (Qfu su n)) /\ Below w.heap.size w w' := by
 have e : Qfu su n = (decide ((n : Int) <= 80000) && inB su 0 (n : Int)) := by
  unfold Qfu; congr 1; simp; omega
 rw [e]
 clear e
 by_cases h : (n : Int) <= 80000
 all_goals
  go_enter Tryz.func75, Tryz.ntmps75
  go_wp2_with (go_at_call 11; refine (in_any _ _ _ _).mono ?_; rintro e w' ⟨rfl, rfl⟩)
  go_ret
  exact ⟨by simp [h]<;>(intro h2; omega), by repeat (first | exact Below.refl _ _ | assumption | refine via0 (by assumption) ?_ | refine Below.drew ?_ | refine Qab ?_ _)⟩
theorem Qe1 (su : Int) (A : Option Addr) (n cap : Nat) (hn : n <= 9223372036854775807) (w : World) :
 Calls Tryz.prog 86 #[.agg #[.slice A n cap, .int .i64 su]] w fun e w' => e = .returned (.bool (Qfu su n)) /\ Below w.heap.size w w' := by
 have e : Qfu su n = (decide ((n : Int) <= 80000) && inB su 0 (n : Int)) := by
  unfold Qfu; congr 1; simp; omega
 rw [e]
 clear e
 by_cases h : (n : Int) <= 80000
 all_goals
  go_enter Tryz.func86, Tryz.ntmps86
  go_wp2_with (go_at_call 76; refine (within_any _ _ _ _).mono ?_; rintro e w' ⟨rfl, rfl⟩)
  go_ret
  exact ⟨by simp [h]<;>(intro h2; omega), by repeat (first | exact Below.refl _ _ | assumption | refine via0 (by assumption) ?_ | refine Below.drew ?_ | refine Qab ?_ _)⟩
end Go.Proofs.YtenhcjkkpnlbeaaGreatDoor.Gen
namespace Go.Proofs.YtenhcjkkpnlbeaaGreatDoor.Gen
open ChangeShapes WideShapes ChangeAt RowKit Joins Deep Base
def syncS (su : Int) (n : Nat) : Int := if Qfu su n then (n : Int) else su
def NewB (B : Nat) (w : World) (v : Value) (l : List UInt8) : Prop := ∃ a c F, v = .slice a l.length c /\ l.length <= c /\ c <= maxLen /\ Sl w a l F /\ (∀ x ∈ F, B <= x)
theorem Qkr {B C : Nat} {W : World} {v : Value} {l : List UInt8} (h : NewB B W v l) (hC : C <= B) : NewB C W v l := by
 obtain ⟨a, c, F, e, h1, h2, hs, hF⟩ := h
 exact ⟨a, c, F, e, h1, h2, hs, fun x hx => Nat.le_trans hC (hF x hx)⟩
theorem Qgo {B C i : Nat} {W : World} {v u : Value} {l : List UInt8} (h : NewB B W v l) (hC : C < B) : NewB B (W.setCell ⟨C, i, none⟩ u) v l := by
 obtain ⟨a, c, F, e, h1, h2, hs, hF⟩ := h
 exact ⟨a, c, F, e, h1, h2, hs.off (Off.of_only ((Only.refl C W).set i u)) (fun x hx hm => by have := hF x hx; simp at hm; omega), hF⟩
end Go.Proofs.YtenhcjkkpnlbeaaGreatDoor.Gen
namespace Go.Proofs.YtenhcjkkpnlbeaaGreatDoor.Gen
abbrev muLink : Go.Conc.Locks.MuLink := { lock := 193, unlock := 194, ilock := 216, iunlock := 217, lockSlow := 236, unlockSlow := 239, disable := 232, enable := 234, acquire := 235, relMerge := 237, cas32 := 233, add32 := 238, tMutex := 252, tIMutex := 250, tPMutex := 297, tPIMutex := 310, tPI32 := 312, tUP := 232, tNoCopy := 248, tU32 := 205 }
theorem muLib : Go.Conc.Locks.MuLib Tryz.prog muLink :=
 ⟨Tryz.func193, Tryz.func194, Tryz.func216, Tryz.func217, Tryz.func232, Tryz.func234, Tryz.func235, Tryz.func237, Tryz.func233, Tryz.func238,
  Tryz.underlying250, Tryz.runUnderlying250, Tryz.sizeOf250, Tryz.isAgg250, Tryz.zeroValue250, Tryz.underlying252, Tryz.runUnderlying252, Tryz.sizeOf252, Tryz.isAgg252, Tryz.zeroValue252, Tryz.underlying297, Tryz.runUnderlying297, Tryz.sizeOf297, Tryz.isAgg297, Tryz.zeroValue297, Tryz.underlying310, Tryz.runUnderlying310, Tryz.sizeOf310, Tryz.isAgg310, Tryz.zeroValue310, Tryz.underlying312, Tryz.runUnderlying312, Tryz.sizeOf312, Tryz.isAgg312, Tryz.zeroValue312, Tryz.underlying232, Tryz.runUnderlying232, Tryz.sizeOf232, Tryz.isAgg232, Tryz.zeroValue232, Tryz.underlying248, Tryz.runUnderlying248, Tryz.sizeOf248, Tryz.isAgg248, Tryz.zeroValue248, Tryz.underlying21, Tryz.runUnderlying21, Tryz.sizeOf21, Tryz.isAgg21, Tryz.zeroValue21, (by kernel_rfl)⟩
end Go.Proofs.YtenhcjkkpnlbeaaGreatDoor.Gen
namespace Go.Proofs.YtenhcjkkpnlbeaaGreatDoor.Gen
open ChangeShapes WideShapes ChangeAt RowKit Joins Deep Base MuLone
theorem Blk.row5d {W : World} {B : Nat} {t : TypeId} {a b c d e : Value} (h : Blk W B t #[a, b, c, d, e]) : W.cell? ⟨B, 0, none⟩ = some a /\ W.cell? ⟨B, 1, none⟩ = some b /\ W.cell? ⟨B, 2, none⟩ = some c /\ W.cell? ⟨B, 3, none⟩ = some d /\ W.cell? ⟨B, 4, none⟩ = some e := ⟨h.cell (by rfl), h.cell (by rfl), h.cell (by rfl), h.cell (by rfl), h.cell (by rfl)⟩
theorem load64_any (d : Nat) (n : Int) (w : World) (h : w.cell? ⟨d, 4, none⟩ = some (.int .i64 n)) :
 Calls Tryz.prog 195 #[.pointer (some ⟨d, 4, none⟩)] w fun e w' => e = .returned (.int .i64 n) /\ w' = w := by
 have hl := run_call_load (P := Tryz.prog) Tryz.func218 (by kernel_rfl) (by kernel_rfl) (by kernel_rfl) .i64 (by kernel_rfl) h
 go_enter Tryz.func195, Tryz.ntmps195
 go_wp2
 go_ret
 exact ⟨rfl, rfl⟩
theorem add64_any (d : Nat) (w : World) (h : w.cell? ⟨d, 4, none⟩ = some (.int .i64 0)) (hz : w.frozen? ⟨d, 4, none⟩ = false) :
 Calls Tryz.prog 192 #[.pointer (some ⟨d, 4, none⟩), .int .i64 1] w fun e w' => e = .returned (.int .i64 1) /\ w' = w.setCell ⟨d, 4, none⟩ (.int .i64 1) := by
 have hl := run_call_add (P := Tryz.prog) Tryz.func215 (by kernel_rfl) (by kernel_rfl) (by kernel_rfl) .i64 (by kernel_rfl) (y := 1) (s := 1) h hz (by simp [go_sem]; rfl)
 go_enter Tryz.func192, Tryz.ntmps192
 go_wp2
 go_ret
 exact ⟨rfl, rfl⟩
theorem copied_any (su : Int) (A : Option Addr) (cap : Nat) (l : List UInt8) (hl : l.length <= 3000000) (w : World) (hA : At w A l) :
 Calls Tryz.prog 191 #[.agg #[.slice A l.length cap, .int .i64 su]] w fun e w' => ∃ a c, e = .returned (.agg #[.slice a l.length c, .int .i64 su]) /\ w'.ownsRow w.heap.size 5 1 (.slice a l.length c) l.length (flat l) /\ Below w.heap.size w w' := by
 have HA := hidP hA
 clear hA
 have B0 : Below w.heap.size w ((w.alloc (.cells #[.slice A l.length cap, .int .i64 su] 54)).alloc (.cells #[.slice none 0 0, .int .i64 0] 54)) := Qab (Qab (Below.refl _ _) _) _
 have p := (Blk.new w 54 #[.slice A l.length cap, .int .i64 su]).alloc (.cells #[.slice none 0 0, .int .i64 0] 54)
 have r := Blk.new (w.alloc (.cells #[.slice A l.length cap, .int .i64 su] 54)) 54 #[.slice none 0 0, .int .i64 0]
 rw [World.size_alloc] at r
 have zr : w.heap.size + 1 < ((w.alloc (.cells #[.slice A l.length cap, .int .i64 su] 54)).alloc (.cells #[.slice none 0 0, .int .i64 0] 54)).heap.size := r.lt
 obtain ⟨v1, w1, hr1, own1, gr1, at1⟩ := Qng ((w.alloc (.cells #[.slice A l.length cap, .int .i64 su] 54)).alloc (.cells #[.slice none 0 0, .int .i64 0] 54)).heap.size (.slice none 0 0) [] l A cap ((w.alloc (.cells #[.slice A l.length cap, .int .i64 su] 54)).alloc (.cells #[.slice none 0 0, .int .i64 0] 54)) (Nat.le_refl _) (World.ownsRow_nil _ _ _ _) (HA.out.below B0) (by simp; omega)
 simp only [List.length_nil, Nat.zero_add, List.nil_append] at own1
 obtain ⟨a1, c1, rfl, _⟩ := Qb2 own1
 have B1 : Below w.heap.size w w1 := B0.grown gr1 B0.size (fun k e => by cases e)
 have p1 := p.kept gr1 (by intro h; cases h)
 have r1 := r.kept gr1 (by intro h; cases h)
 have z0 := B0.size
 have far : ∀ C, C < ((w.alloc (.cells #[.slice A l.length cap, .int .i64 su] 54)).alloc (.cells #[.slice none 0 0, .int .i64 0] 54)).heap.size -> some C ≠ (Value.slice a1 l.length c1).ownBlock := fun C hC => owns_far own1 hC
 have R := (((r1.other (B' := w.heap.size) (by omega) 0 (.slice a1 l.length c1)).setAt 0 (.slice a1 l.length c1)).setAt 1 (.int .i64 su))
 have P1 : Blk _ w.heap.size 54 #[.slice a1 l.length c1, .int .i64 su] := p1.setAt 0 (.slice a1 l.length c1)
 obtain ⟨e0, e1⟩ := Blk.row2 R
 obtain ⟨u0, u1⟩ := p.row2
 obtain ⟨k0, k1⟩ := p1.row2
 obtain ⟨m0, m1⟩ := P1.row2
 obtain ⟨y0, y1⟩ := r1.row2
 have f0 := p1.thaw 0
 have f1 := r1.thaw 0
 have f2 := r1.thaw 1
 have O1 := hidP own1
 have Far := hidP far
 clear R P1 own1 gr1 at1 far
 go_enter Tryz.func191, Tryz.ntmps191
 go_wp2_with (at_builtin; refine Qa8 rfl _ _ _ rfl _ _ _ rfl rfl hr1 ?_)
 exact bodyPost_ret (v := .agg #[.slice a1 l.length c1, .int .i64 su]) (by simp [results, Tryz.results191, go_sem, e0, e1]) rfl
  ⟨_, _, rfl, Qdo (Qcd (Qcd (Qcd O1.out (Far.out _ (by omega))) (Far.out _ zr)) (Far.out _ zr)) z0, Qa7 (Qa7 (Qa7 B1 (by omega) _) (by omega) _) (by omega) _⟩
theorem Qnc (su : Int) (A : Option Addr) (cap : Nat) (l : List UInt8) (hl : l.length <= 3000000) (w : World) (hA : At w A l) :
 Calls Tryz.prog 161 #[.agg #[.slice A l.length cap, .int .i64 su]] w fun e w' => ∃ d a c, e = .returned (.pointer (some ⟨d, 0, none⟩)) /\ Blk w' d 258 #[.int .i32 0, .int .u32 0, .slice a l.length c, .int .i64 su, .int .i64 0] /\ w'.ownsRow w.heap.size 5 1 (.slice a l.length c) l.length (flat l) /\ w.heap.size <= d /\ some d ≠ (Value.slice a l.length c).ownBlock /\ Below w.heap.size w w' := by
 have HA := hidP hA
 clear hA
 go_enter Tryz.func161, Tryz.ntmps161
 go_wp2_with fail
 refine (copied_any su A cap l hl _ (HA.out.below (Qab (Below.refl _ _) _))).mono ?_
 rintro e w1 ⟨a, c, rfl, o1, g1⟩
 have B1 : Below w.heap.size w w1 := by repeat (first | exact Below.refl _ _ | assumption | refine via0 (by assumption) ?_ | refine Below.drew ?_ | refine Qab ?_ _)
 have O1 := hidP o1
 have z := B1.size
 have n : some w1.heap.size ≠ (Value.slice a l.length c).ownBlock := fun e => Nat.lt_irrefl _ (owns_lt O1.out e.symm)
 clear o1 g1
 go_wp2
 go_ret
 exact ⟨_, _, _, rfl, Blk.new _ _ _, Qdo (Qdi O1.out _) (by simp), z, n, Qab B1 _⟩
theorem Qle (d : Nat) (w : World) (h : w.cell? ⟨d, 4, none⟩ = some (.int .i64 0)) (hz : w.frozen? ⟨d, 4, none⟩ = false) :
 Calls Tryz.prog 162 #[.pointer (some ⟨d, 0, none⟩)] w fun e w' => e = .returned (.tuple #[]) /\ w' = w.setCell ⟨d, 4, none⟩ (.int .i64 1) := by
 go_enter Tryz.func162, Tryz.ntmps162
 go_wp2_with fail
 refine (add64_any d w h hz).mono ?_
 rintro e w' ⟨rfl, rfl⟩
 go_wp2
 go_end0
 exact ⟨rfl, rfl⟩
end Go.Proofs.YtenhcjkkpnlbeaaGreatDoor.Gen
