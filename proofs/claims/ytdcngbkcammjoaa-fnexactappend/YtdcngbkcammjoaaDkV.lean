/-
  Disks: what the laws' sz, to, eq, mark and held functions of them do; a disk opened. No condition but that there are at most 1048576 bytes.
-/
import Derived.Test.YtdcngbkcammjoaaBSl
namespace Go.Proofs.Ytdcngbkcammjoaa.Gen
open Go.ChangeShapes Go.WideShapes Go.ChangeAt Go.RowKit Go.Joins Go.Deep Base
set_option linter.unusedVariables false

theorem At.hidB {w : World} {A : Option Addr} {l : List UInt8} (hA : At w A l) : Hid (∀ W : World, Below w.heap.size w W → At W A l) := fun W hW => hA.below hW

theorem szByteS_any (A : Option Addr) (cap : Nat) (l : List UInt8) (hl : l.length ≤ 9223372036854775807) (left : Int) (h0 : 0 ≤ left) (h1 : left ≤ 1048576) (w : World) :
    Calls Try.prog 23 #[.slice A l.length cap, .int .i64 left] w fun e w' => (∃ r : Int, e = .returned (.int .i64 r) ∧ (r < 0 ∨ (0 ≤ r ∧ r = left - (l.length : Int)))) ∧ w' = w := by
  generalize l.length = n at hl ⊢
  by_cases hn : left - (n : Int) < 0
  · go_enter Try.func23, Try.ntmps23
    go_wp2
    go_ret
    exact ⟨⟨-1, rfl, .inl (by omega)⟩, rfl⟩
  · go_enter Try.func23, Try.ntmps23
    go_wp2
    go_ret
    exact ⟨⟨left - (n : Int), rfl, .inr ⟨by omega, rfl⟩⟩, rfl⟩

theorem szDisk_any (su : Int) (A : Option Addr) (cap : Nat) (l : List UInt8) (hl : l.length ≤ 9223372036854775807) (left : Int) (h0 : 0 ≤ left) (h1 : left ≤ 1048576) (w : World) :
    Calls Try.prog 7 #[.agg #[.slice A l.length cap, .int .i64 su], .int .i64 left] w fun e w' => (∃ r : Int, e = .returned (.int .i64 r) ∧ (r < 0 ∨ (0 ≤ r ∧ r = left - (l.length : Int)))) ∧ Below w.heap.size w w' := by
  go_enter Try.func7, Try.ntmps7
  go_wp2_with fail
  refine (szByteS_any A cap l hl left h0 h1 _).mono ?_
  rintro e w1 ⟨⟨r, rfl, hr⟩, rfl⟩
  have HR := hidP hr
  clear hr
  by_cases hn : r < 0
  · go_wp2
    go_ret
    exact ⟨⟨-1, rfl, .inl (by omega)⟩, by repeat (first | exact Below.refl _ _ | assumption | refine via0 (by assumption) ?_ | refine Below.drew ?_ | refine alloc0 ?_ _)⟩
  · go_wp2
    go_ret
    exact ⟨⟨r, rfl, HR.out⟩, by repeat (first | exact Below.refl _ _ | assumption | refine via0 (by assumption) ?_ | refine Below.drew ?_ | refine alloc0 ?_ _)⟩

set_option maxRecDepth 100000 in
theorem toDisk_any (su : Int) (A : Option Addr) (cap : Nat) (l : List UInt8) (hl : l.length ≤ 1048576) (w : World) (hA : At w A l) :
    Calls Try.prog 9 #[.agg #[.slice A l.length cap, .int .i64 su]] w
      fun e w' => ∃ b, e = .returned (.agg #[.slice (some ⟨b, 0, none⟩) l.length l.length, .int .i64 su]) ∧ Below w.heap.size w w' ∧ w.heap.size ≤ b ∧ b < w'.heap.size ∧ In w' b 0 l ∧ w'.there b 0 (l.length * 1) := by
  have HA := hA.hidB
  clear hA
  go_enter Try.func9, Try.ntmps9
  go_wp2_with (go_at_call 13; refine (toB_any A cap l hl _ (HA.out _ ?_)).mono ?_; (repeat (first | exact Below.refl _ _ | assumption | refine via0 (by assumption) ?_ | refine Below.drew ?_ | refine alloc0 ?_ _)); rintro e w1 ⟨rfl, g1, s1, i1, t1⟩; obtain ⟨k1, m1⟩ := bcell g1)
  have i2 : In w1 (w.heap.size + 1 + 1 + 1) 0 l := by simpa using i1
  have t2 : w1.there (w.heap.size + 1 + 1 + 1) 0 (l.length * 1) := by simpa using t1
  have s2 : w.heap.size + 1 + 1 + 1 < w1.heap.size := by simpa using s1
  have g2 : Below w.heap.size w w1 := via0 g1 (by repeat (first | exact Below.refl _ _ | assumption | refine via0 (by assumption) ?_ | refine Below.drew ?_ | refine alloc0 ?_ _))
  refine bodyPost_ret (v := .agg #[.slice (some ⟨w.heap.size + 1 + 1 + 1, 0, none⟩) l.length l.length, .int .i64 su]) (by simp [results, Try.results9, go_sem, k1]) rfl ⟨w.heap.size + 1 + 1 + 1, rfl, ?_, by omega, by simp; omega, ?_, ?_⟩
  · exact bl_set (bl_set (bl_set (bl_set (g2) (by omega) _) (by omega) _) (by omega) _) (by omega) _
  · exact In.set (In.set (In.set (In.set (i2) _ _ (by simp)) _ _ (by simp)) _ _ (by simp)) _ _ (by simp)
  · exact there_set (there_set (there_set (there_set (t2) _ _ _) _ _ _) _ _ _) _ _ _

theorem eqDisk_same (su : Int) (A A' : Option Addr) (cap cap' : Nat) (l : List UInt8) (hl : l.length ≤ 9223372036854775807) (w : World) (hA : At w A l) (hA' : At w A' l) :
    Calls Try.prog 11 #[.agg #[.slice A l.length cap, .int .i64 su], .agg #[.slice A' l.length cap', .int .i64 su]] w fun e w' => e = .returned (.bool true) ∧ Below w.heap.size w w' := by
  have HA := hA.hidB
  have HA' := hA'.hidB
  clear hA hA'
  go_enter Try.func11, Try.ntmps11
  go_wp2_with (go_at_call 15; refine (eqB_same A A' cap cap' l hl _ (HA.out _ ?_) (HA'.out _ ?_)).mono ?_; (repeat (first | exact Below.refl _ _ | assumption | refine via0 (by assumption) ?_ | refine Below.drew ?_ | refine alloc0 ?_ _)); (repeat (first | exact Below.refl _ _ | assumption | refine via0 (by assumption) ?_ | refine Below.drew ?_ | refine alloc0 ?_ _)); rintro e w1 ⟨rfl, g1⟩; obtain ⟨k1, m1⟩ := bcell g1)
  go_ret
  refine ⟨rfl, ?_⟩
  repeat (first | exact Below.refl _ _ | assumption | refine via0 (by assumption) ?_ | refine Below.drew ?_ | refine alloc0 ?_ _)

theorem cellsDisk : Try.prog.cellsOf 24 = 2 := by kernel_rfl

set_option maxRecDepth 100000 in
/-- A disk by value, opened: a list of bytes and a number. -/
theorem openDisk {H : Type} {enc : TypeId × Value → H} {W : World} {base b0 : Nat} {r : Reach} {spare : Nat → Bool} {held : Bool} {v : Value} {d : DataW H} {p : List MemPlace}
    (hv : Value.okWide Try.prog W r b0 24 v) (h : DataW.Trod enc Try.prog W base spare held 24 v d p) :
    ∃ (su : Int) (A : Option Addr) (cap : Nat) (l : List UInt8), v = .agg #[.slice A l.length cap, .int .i64 su] ∧ I64 su ∧ l.length ≤ 9223372036854775807 ∧ At W A l := by
  obtain ⟨c0, c1, y0, y1, m, rfl, rfl, rfl, hy0, hy1⟩ := open_agg2 Try.underlying24 (by kernel_rfl) cellsDisk hv h
  obtain ⟨a, e1, rfl, wa⟩ := DataW.trod_int Try.underlying3 hy1
  simp at e1
  subst e1
  obtain ⟨A, cap, l, rfl, hl, hat⟩ := openBs hy0
  exact ⟨a, A, cap, l, rfl, i64_of wa, hl, hat⟩

theorem markSl1_any (a : Option Addr) (c : Nat) (L : List UInt8) (F : List Nat) (hL : L.length ≤ 3000000) (k : Int) (hk : 1 ≤ k) (hk' : k ≤ 100000000) (w : World) (h : Sl w a L F) :
    Calls Try.prog 17 #[.slice a L.length c, .int .i64 k] w fun e w' => e = .returned (.int .i64 (k + (L.length : Int))) ∧ Off F w w' ∧ Sl w' a (marksB L.length k) F := by
  rcases h with ⟨rfl, rfl⟩ | ⟨b, o, rfl, rfl, hb, hi, ht⟩
  · refine (markB_none a c k w).mono ?_
    rintro e w' ⟨rfl, rfl⟩
    exact ⟨by simp, Off.refl _ _, .inl ⟨rfl, rfl⟩⟩
  · refine (markB_any b o c L.length k hk hk' (by omega) w hb ht).mono ?_
    rintro e w' ⟨rfl, h1, h2, h3⟩
    refine ⟨rfl, Off.of_only h1, .inr ⟨b, o, rfl, rfl, Nat.lt_of_lt_of_le hb h1.size, h2, ?_⟩⟩
    rw [marksB_length]
    exact h3

theorem markDisk_any (su : Int) (a : Option Addr) (cap : Nat) (l : List UInt8) (hl : l.length ≤ 3000000) (k : Int) (hk : 1 ≤ k) (hk' : k ≤ 100000000) (F : List Nat) (w : World) (hs : Sl w a l F) :
    Calls Try.prog 16 #[.agg #[.slice a l.length cap, .int .i64 su], .int .i64 k] w fun e w' => e = .returned (.int .i64 (k + (l.length : Int))) ∧ Off F w w' ∧ Sl w' a (marksB l.length k) F := by
  have HC : Hid (∀ ob : Obj, Calls Try.prog 17 #[.slice a l.length cap, .int .i64 k] (w.alloc ob) fun e w' => e = .returned (.int .i64 (k + (l.length : Int))) ∧ Off F (w.alloc ob) w' ∧ Sl w' a (marksB l.length k) F) := fun ob => markSl1_any a cap l F hl k hk hk' _ (hs.below (alloc0 (Below.refl _ _) ob))
  clear hs
  generalize hz : k + (l.length : Int) = z at HC ⊢
  clear hz
  go_enter Try.func16, Try.ntmps16
  go_wp2_with fail
  refine (HC.out _).mono ?_
  rintro e w1 ⟨rfl, o1, s1⟩
  have O1 := hidP o1
  have S1 := hidP s1
  clear o1 s1
  go_wp2
  go_ret
  exact ⟨rfl, by simpa using (Off.of_below (alloc0 (Below.refl _ _) _)).trans O1.out, S1.out⟩

theorem heldDisk_any (su : Int) (a : Option Addr) (cap n : Nat) (hl : n ≤ 3000000) (F : List Nat) (w : World) (hs : Sl w a (marksB n 1) F) :
    Calls Try.prog 18 #[.agg #[.slice a n cap, .int .i64 su], .int .i64 1] w fun e w' => e = .returned (.int .i64 (1 + (n : Int))) ∧ Below w.heap.size w w' := by
  have HC : Hid (∀ ob : Obj, Calls Try.prog 30 #[.slice a n cap, .int .i64 1] (w.alloc ob) fun e w' => e = .returned (.int .i64 (1 + (n : Int))) ∧ Below (w.alloc ob).heap.size (w.alloc ob) w') := fun ob => heldSl_any a cap n F (by omega) _ (hs.below (alloc0 (Below.refl _ _) ob))
  clear hs
  have hp : ¬ 1 + (n : Int) < 0 := by omega
  generalize hz : 1 + (n : Int) = z at HC hp ⊢
  clear hz
  go_enter Try.func18, Try.ntmps18
  go_wp2_with fail
  refine (HC.out _).mono ?_
  rintro e w1 ⟨rfl, g1⟩
  go_wp2
  go_ret
  exact ⟨rfl, by repeat (first | exact Below.refl _ _ | assumption | refine via0 (by assumption) ?_ | refine Below.drew ?_ | refine alloc0 ?_ _)⟩
end Go.Proofs.Ytdcngbkcammjoaa.Gen
