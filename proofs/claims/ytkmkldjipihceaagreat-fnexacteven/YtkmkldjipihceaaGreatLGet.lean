/-
  The last number and Term of a log, a number's Term, and which log is newer: by the specification and by the program, the same. No condition but that there are at most 3000000 entries.
-/
import Derived.WalkSmall
import Derived.Test.YtkmkldjipihceaaGreatKOkSpec
import Derived.Test.YtkmkldjipihceaaGreatKOkImpl
import Derived.Test.YtkmkldjipihceaaGreatLOk
import Derived.Test.YtkmkldjipihceaaGreatRpcV
set_option linter.unusedVariables false
set_option linter.unusedSimpArgs false
set_option maxRecDepth 100000
set_option maxHeartbeats 8000000
set_option maxRecDepth 100000
set_option maxHeartbeats 8000000
namespace Go.Proofs.YtkmkldjipihceaaGreat.Gen
open ChangeShapes WideShapes ChangeAt RowKit Joins Deep Base
def Qbc (base : Int) (l : List En) : Int := if l = [] then base else IntKind.i64.wrap (base + (l.length : Int))
def Qds (bt : Int) (l : List En) : Int := (l.getLast?.map En.term).getD bt
theorem Qfv (base bt : Int) (b o cap m : Nat) (hm : m + 1 <= 3000000) (t : Int) (w : World) (hb : b < w.heap.size) (hc : w.cell? ⟨b, o + m * 9, none⟩ = some (.int .i64 t)) :
 Calls Tryz.prog 66 #[.agg (Qap base bt (some ⟨b, o, none⟩) (m + 1) cap)] w fun e w' => e = .returned (.tuple #[.int .i64 (IntKind.i64.wrap (base + ((m + 1 : Nat) : Int))), .int .i64 t]) /\ Below w.heap.size w w' := by
 obtain ⟨s, hs⟩ : ∃ s, IntKind.i64.wrap (base + ((m + 1 : Nat) : Int)) = s := ⟨_, rfl⟩
 rw [hs]
 have hs1 : IntKind.i64.wrap (base + ((m : Int) + 1)) = s := by rw [← hs]; simp
 have Hs := hidP hs
 clear hs
 have hn : ¬ ((m : Int) + 1 = 0) := by omega
 have hi0 : (0 : Int) <= (m : Int) := by omega
 have hi1 : (m : Int) < (m : Int) + 1 := by omega
 have p1 := Blk.new w 53 (Qap base bt (some ⟨b, o, none⟩) (m + 1) cap)
 have hc1 : (w.alloc (.cells (Qap base bt (some ⟨b, o, none⟩) (m + 1) cap) 53)).cell? ⟨b, o + m * 9, none⟩ = some (.int .i64 t) := ((Qab (Below.refl w.heap.size w) _).cell (p := ⟨b, o + m * 9, none⟩) hb).trans hc
 have hbs : b < (w.alloc (.cells (Qap base bt (some ⟨b, o, none⟩) (m + 1) cap) 53)).heap.size := by simp; omega
 have B0 : Below w.heap.size w (w.alloc (.cells (Qap base bt (some ⟨b, o, none⟩) (m + 1) cap) 53)) := Qab (Below.refl _ _) _
 go_enter Tryz.func66, Tryz.ntmps66
 go_wp2_with fail
 go_quiet (fail)
 go_wp2
 go_ret2
 exact ⟨rfl, below_drewN B0 _⟩
theorem Qfu (base bt : Int) (A : Option Addr) (cap : Nat) (w : World) :
 Calls Tryz.prog 66 #[.agg (Qap base bt A 0 cap)] w fun e w' => e = .returned (.tuple #[.int .i64 base, .int .i64 bt]) /\ Below w.heap.size w w' := by
 have B0 : Below w.heap.size w (w.alloc (.cells (Qap base bt A 0 cap) 53)) := Qab (Below.refl _ _) _
 go_enter Tryz.func66, Tryz.ntmps66
 go_wp2_with fail
 go_quiet (fail)
 go_wp2
 go_ret2
 exact ⟨rfl, below_drewN B0 _⟩
theorem Qct (base bt : Int) (A : Option Addr) (cap : Nat) (l : List En) (hl : l.length <= 3000000) (w : World) (hA : At w A l) :
 Calls Tryz.prog 66 #[.agg (Qap base bt A l.length cap)] w fun e w' => e = .returned (.tuple #[.int .i64 (Qbc base l), .int .i64 (Qds bt l)]) /\ Below w.heap.size w w' := by
 by_cases h : l = []
 . subst h
   exact Qfu base bt A cap w
 . obtain ⟨b, o, rfl, hbs, hIn⟩ := hA.resolve_left h
   obtain ⟨m, hm⟩ : ∃ m, l.length = m + 1 := ⟨l.length - 1, by have := List.length_pos_iff.2 h; omega⟩
   have hlt : m < l.length := by omega
   have c := (hIn.getEn m hlt).1
   have e1 : Qbc base l = IntKind.i64.wrap (base + ((m + 1 : Nat) : Int)) := by unfold Qbc; rw [if_neg h, hm]
   have e2 : Qds bt l = l[m].term := by
    unfold Qds
    rw [List.getLast?_eq_getElem?, hm, Nat.add_sub_cancel, List.getElem?_eq_getElem hlt]
    rfl
   rw [e1, e2, hm]
   exact Qfv base bt b o cap m (by omega) _ w hbs c
theorem Qf3 (base bt : Int) (b o cap m : Nat) (hm : m + 1 <= 3000000) (t : Int) (w : World) (hb : b < w.heap.size) (hc : w.cell? ⟨b, o + m * 9, none⟩ = some (.int .i64 t)) :
 Calls Tryz.prog 106 #[.agg (Qap base bt (some ⟨b, o, none⟩) (m + 1) cap)] w fun e w' => e = .returned (.tuple #[.int .i64 (IntKind.i64.wrap (base + ((m + 1 : Nat) : Int))), .int .i64 t]) /\ Below w.heap.size w w' := by
 obtain ⟨s, hs⟩ : ∃ s, IntKind.i64.wrap (base + ((m + 1 : Nat) : Int)) = s := ⟨_, rfl⟩
 rw [hs]
 have hs1 : IntKind.i64.wrap (base + ((m : Int) + 1)) = s := by rw [← hs]; simp
 have Hs := hidP hs
 clear hs
 have hn : ¬ ((m : Int) + 1 = 0) := by omega
 have hi0 : (0 : Int) <= (m : Int) := by omega
 have hi1 : (m : Int) < (m : Int) + 1 := by omega
 have p1 := Blk.new w 53 (Qap base bt (some ⟨b, o, none⟩) (m + 1) cap)
 have hc1 : (w.alloc (.cells (Qap base bt (some ⟨b, o, none⟩) (m + 1) cap) 53)).cell? ⟨b, o + m * 9, none⟩ = some (.int .i64 t) := ((Qab (Below.refl w.heap.size w) _).cell (p := ⟨b, o + m * 9, none⟩) hb).trans hc
 have hbs : b < (w.alloc (.cells (Qap base bt (some ⟨b, o, none⟩) (m + 1) cap) 53)).heap.size := by simp; omega
 have B0 : Below w.heap.size w (w.alloc (.cells (Qap base bt (some ⟨b, o, none⟩) (m + 1) cap) 53)) := Qab (Below.refl _ _) _
 go_enter Tryz.func106, Tryz.ntmps106
 go_wp2_with fail
 go_quiet (fail)
 go_wp2
 go_ret2
 exact ⟨rfl, below_drewN B0 _⟩
theorem Qf2 (base bt : Int) (A : Option Addr) (cap : Nat) (w : World) :
 Calls Tryz.prog 106 #[.agg (Qap base bt A 0 cap)] w fun e w' => e = .returned (.tuple #[.int .i64 base, .int .i64 bt]) /\ Below w.heap.size w w' := by
 have B0 : Below w.heap.size w (w.alloc (.cells (Qap base bt A 0 cap) 53)) := Qab (Below.refl _ _) _
 go_enter Tryz.func106, Tryz.ntmps106
 go_wp2_with fail
 go_quiet (fail)
 go_wp2
 go_ret2
 exact ⟨rfl, below_drewN B0 _⟩
theorem Qdz (base bt : Int) (A : Option Addr) (cap : Nat) (l : List En) (hl : l.length <= 3000000) (w : World) (hA : At w A l) :
 Calls Tryz.prog 106 #[.agg (Qap base bt A l.length cap)] w fun e w' => e = .returned (.tuple #[.int .i64 (Qbc base l), .int .i64 (Qds bt l)]) /\ Below w.heap.size w w' := by
 by_cases h : l = []
 . subst h
   exact Qf2 base bt A cap w
 . obtain ⟨b, o, rfl, hbs, hIn⟩ := hA.resolve_left h
   obtain ⟨m, hm⟩ : ∃ m, l.length = m + 1 := ⟨l.length - 1, by have := List.length_pos_iff.2 h; omega⟩
   have hlt : m < l.length := by omega
   have c := (hIn.getEn m hlt).1
   have e1 : Qbc base l = IntKind.i64.wrap (base + ((m + 1 : Nat) : Int)) := by unfold Qbc; rw [if_neg h, hm]
   have e2 : Qds bt l = l[m].term := by
    unfold Qds
    rw [List.getLast?_eq_getElem?, hm, Nat.add_sub_cancel, List.getElem?_eq_getElem hlt]
    rfl
   rw [e1, e2, hm]
   exact Qf3 base bt b o cap m (by omega) _ w hbs c
def Qd2 (ro wi le ke te vo base bt : Int) (l : List En) (x : KC) : Bool := inB te 0 300 && inB vo (-1) 4 && logB base bt l && decide (Qds bt l <= te) && Qbo ro wi le ke x
theorem Qep (ro wi le ke te vo base bt : Int) (A : Option Addr) (cap : Nat) (l : List En) (hl : l.length <= 1048576) (hr : ∀ x ∈ l, x.fit) (x : KC) (ha : KAsk x) (w : World) (hA : At w A l) (hX : KAt w x) :
 Calls Tryz.prog 78 #[.agg (Qag ro wi le ke), .agg (Qad te vo base bt A l.length cap x.rA x.rs.length x.rc x.mA x.ms.length x.mc x.gA x.gs.length x.gc x.time x.dA x.ds.length x.dc x.lA x.ls.length x.lc)] w fun e w' => e = .returned (.bool (Qd2 ro wi le ke te vo base bt l x)) /\ Below w.heap.size w w' := by
 obtain ⟨b1, h1⟩ : ∃ b, inB te 0 300 = b := ⟨_, rfl⟩
 obtain ⟨b2, h2⟩ : ∃ b, inB vo (-1) 4 = b := ⟨_, rfl⟩
 obtain ⟨b3, h3⟩ : ∃ b, logB base bt l = b := ⟨_, rfl⟩
 obtain ⟨lt, hlt⟩ : ∃ t, Qds bt l = t := ⟨_, rfl⟩
 obtain ⟨ln, hln⟩ : ∃ t, Qbc base l = t := ⟨_, rfl⟩
 obtain ⟨b5, h5⟩ : ∃ b, Qbo ro wi le ke x = b := ⟨_, rfl⟩
 have hF : Hid (Qd2 ro wi le ke te vo base bt l x = (b1 && b2 && b3 && decide (lt <= te) && b5)) := by show _ = _; rw [← h1, ← h2, ← h3, ← hlt, ← h5]; rfl
 have E0 : Hid (∀ W : World, Below w.heap.size w W -> Calls Tryz.prog 66 #[.agg (Qap base bt A l.length cap)] W fun e w' => e = .returned (.tuple #[.int .i64 ln, .int .i64 lt]) /\ Below W.heap.size W w') := fun W g => by have h := Qct base bt A cap l (by omega) W (hA.below g); rw [hlt, hln] at h; exact h
 have E1 : Hid (∀ W : World, Calls Tryz.prog 32 (Qa4 te 0 300) W fun e w' => e = .returned (.bool b1) /\ w' = W) := fun W => h1 ▸ in_any _ _ _ W
 have E2 : Hid (∀ W : World, Calls Tryz.prog 32 (Qa4 vo (-1) 4) W fun e w' => e = .returned (.bool b2) /\ w' = W) := fun W => h2 ▸ in_any _ _ _ W
 have E3 : Hid (∀ W : World, Below w.heap.size w W -> Calls Tryz.prog 114 #[.agg (Qap base bt A l.length cap)] W fun e w' => e = .returned (.bool b3) /\ Below W.heap.size W w') := fun W g => h3 ▸ Qft base bt A cap l (by omega) hr W (hA.below g)
 have E5 : Hid (∀ W : World, Below w.heap.size w W -> Calls Tryz.prog 79 #[.agg (Qag ro wi le ke), .agg (Qae x.rA x.rs.length x.rc x.mA x.ms.length x.mc x.gA x.gs.length x.gc x.time x.dA x.ds.length x.dc x.lA x.ls.length x.lc)] W fun e w' => e = .returned (.bool b5) /\ Below W.heap.size W w') := fun W g => h5 ▸ Qc7 ro wi le ke x ha W (hX.below g)
 clear h1 h2 h3 hlt hln h5 hA hX ha hr hl
 have P0 : Blk ((w.alloc (.cells (Qag ro wi le ke) 33)).alloc (.cells (Qad te vo base bt A l.length cap x.rA x.rs.length x.rc x.mA x.ms.length x.mc x.gA x.gs.length x.gc x.time x.dA x.ds.length x.dc x.lA x.ls.length x.lc) 61)) w.heap.size 33 (Qag ro wi le ke) := (Blk.new w _ _).alloc _
 have P1 : Blk ((w.alloc (.cells (Qag ro wi le ke) 33)).alloc (.cells (Qad te vo base bt A l.length cap x.rA x.rs.length x.rc x.mA x.ms.length x.mc x.gA x.gs.length x.gc x.time x.dA x.ds.length x.dc x.lA x.ls.length x.lc) 61)) (w.heap.size + 1) 61 (Qad te vo base bt A l.length cap x.rA x.rs.length x.rc x.mA x.ms.length x.mc x.gA x.gs.length x.gc x.time x.dA x.ds.length x.dc x.lA x.ls.length x.lc) := by have := Blk.new (w.alloc (.cells (Qag ro wi le ke) 33)) 61 (Qad te vo base bt A l.length cap x.rA x.rs.length x.rc x.mA x.ms.length x.mc x.gA x.gs.length x.gc x.time x.dA x.ds.length x.dc x.lA x.ls.length x.lc); rwa [World.size_alloc] at this
 have B0 : Below w.heap.size w ((w.alloc (.cells (Qag ro wi le ke) 33)).alloc (.cells (Qad te vo base bt A l.length cap x.rA x.rs.length x.rc x.mA x.ms.length x.mc x.gA x.gs.length x.gc x.time x.dA x.ds.length x.dc x.lA x.ls.length x.lc) 61)) := by repeat (first | exact Below.refl _ _ | assumption | refine via0 (by assumption) ?_ | refine Below.drew ?_ | refine Qab ?_ _)
 have H0 := hidP (And.intro B0 (And.intro P0 P1))
 clear P0 P1 B0
 go_enter Tryz.func78, Tryz.ntmps78
 go_wp2_with fail
 refine (E0.out _ H0.out.1).mono ?_
 rintro e w1 ⟨rfl, g1⟩
 have B1 := via0 g1 H0.out.1
 have P0 := H0.out.2.1.below g1 H0.out.2.1.lt
 have P1 := H0.out.2.2.below g1 H0.out.2.2.lt
 clear H0 g1
 obtain ⟨a0, a1, a2, a3⟩ := P0.row4
 obtain ⟨u0, u1, u2, u3, u4, u5, u6, u7, u8, u9, u10⟩ := P1.row11
 have q0 := P0.lt
 have q1 := P1.lt
 cases b1
 . go_wp2_with fail
   refine (E1.out _).mono ?_
   rintro e w2 ⟨rfl, rfl⟩
   go_wp2
   go_ret
   exact ⟨by rw [hF.out]; rfl, B1⟩
 cases b2
 . go_wp2_with fail
   refine (E1.out _).mono ?_
   rintro e w2 ⟨rfl, rfl⟩
   go_wp2_with fail
   refine (E2.out _).mono ?_
   rintro e w2 ⟨rfl, rfl⟩
   go_wp2
   go_ret
   exact ⟨by rw [hF.out]; rfl, B1⟩
 go_wp2_with fail
 refine (E1.out _).mono ?_
 rintro e w2 ⟨rfl, rfl⟩
 go_wp2_with fail
 refine (E2.out _).mono ?_
 rintro e w2 ⟨rfl, rfl⟩
 go_wp2_with fail
 refine (E3.out _ B1).mono ?_
 rintro e w2 ⟨rfl, g2⟩
 have B2 := via0 g2 B1
 have P0' := P0.below g2 P0.lt
 have P1' := P1.below g2 P1.lt
 clear P0 P1 B1 g2 a0 a1 a2 a3 u0 u1 u2 u3 u4 u5 u6 u7 u8 u9 u10 q0 q1
 obtain ⟨a0, a1, a2, a3⟩ := P0'.row4
 obtain ⟨u0, u1, u2, u3, u4, u5, u6, u7, u8, u9, u10⟩ := P1'.row11
 have q0 := P0'.lt
 have q1 := P1'.lt
 cases b3
 . go_wp2
   go_ret
   exact ⟨by rw [hF.out]; rfl, B2⟩
 by_cases h4 : lt <= te
 . rw [decide_eq_true h4] at hF
   go_wp2_with fail
   refine (E5.out _ B2).mono ?_
   rintro e w3 ⟨rfl, g3⟩
   have B3 := via0 g3 B2
   cases b5
   all_goals
    go_wp2
    go_ret
    exact ⟨by rw [hF.out]; rfl, B3⟩
 . rw [decide_eq_false h4] at hF
   go_wp2
   go_ret
   exact ⟨by rw [hF.out]; rfl, B2⟩
theorem Qey (ro wi le ke te vo base bt : Int) (A : Option Addr) (cap : Nat) (l : List En) (hl : l.length <= 1048576) (hr : ∀ x ∈ l, x.fit) (x : KC) (ha : KAsk x) (w : World) (hA : At w A l) (hX : KAt w x) :
 Calls Tryz.prog 145 #[.agg (Qag ro wi le ke), .agg (Qad te vo base bt A l.length cap x.rA x.rs.length x.rc x.mA x.ms.length x.mc x.gA x.gs.length x.gc x.time x.dA x.ds.length x.dc x.lA x.ls.length x.lc)] w fun e w' => e = .returned (.bool (Qd2 ro wi le ke te vo base bt l x)) /\ Below w.heap.size w w' := by
 obtain ⟨b1, h1⟩ : ∃ b, inB te 0 300 = b := ⟨_, rfl⟩
 obtain ⟨b2, h2⟩ : ∃ b, inB vo (-1) 4 = b := ⟨_, rfl⟩
 obtain ⟨b3, h3⟩ : ∃ b, logB base bt l = b := ⟨_, rfl⟩
 obtain ⟨lt, hlt⟩ : ∃ t, Qds bt l = t := ⟨_, rfl⟩
 obtain ⟨ln, hln⟩ : ∃ t, Qbc base l = t := ⟨_, rfl⟩
 obtain ⟨b5, h5⟩ : ∃ b, Qbo ro wi le ke x = b := ⟨_, rfl⟩
 have hF : Hid (Qd2 ro wi le ke te vo base bt l x = (b1 && b2 && b3 && decide (lt <= te) && b5)) := by show _ = _; rw [← h1, ← h2, ← h3, ← hlt, ← h5]; rfl
 have E0 : Hid (∀ W : World, Below w.heap.size w W -> Calls Tryz.prog 106 #[.agg (Qap base bt A l.length cap)] W fun e w' => e = .returned (.tuple #[.int .i64 ln, .int .i64 lt]) /\ Below W.heap.size W w') := fun W g => by have h := Qdz base bt A cap l (by omega) W (hA.below g); rw [hlt, hln] at h; exact h
 have E1 : Hid (∀ W : World, Calls Tryz.prog 56 #[.int .i64 te] W fun e w' => e = .returned (.bool b1) /\ w' = W) := fun W => h1 ▸ Qbj _ W
 have E2 : Hid (∀ W : World, Calls Tryz.prog 89 (Qa4 vo (-1) 4) W fun e w' => e = .returned (.bool b2) /\ w' = W) := fun W => h2 ▸ within_any _ _ _ W
 have E3 : Hid (∀ W : World, Below w.heap.size w W -> Calls Tryz.prog 158 #[.agg (Qap base bt A l.length cap)] W fun e w' => e = .returned (.bool b3) /\ Below W.heap.size W w') := fun W g => h3 ▸ Qf1 base bt A cap l (by omega) hr W (hA.below g)
 have E5 : Hid (∀ W : World, Below w.heap.size w W -> Calls Tryz.prog 147 #[.agg (Qag ro wi le ke), .agg (Qae x.rA x.rs.length x.rc x.mA x.ms.length x.mc x.gA x.gs.length x.gc x.time x.dA x.ds.length x.dc x.lA x.ls.length x.lc)] W fun e w' => e = .returned (.bool b5) /\ Below W.heap.size W w') := fun W g => h5 ▸ Qc9 ro wi le ke x ha W (hX.below g)
 clear h1 h2 h3 hlt hln h5 hA hX ha hr hl
 have P0 : Blk ((w.alloc (.cells (Qag ro wi le ke) 33)).alloc (.cells (Qad te vo base bt A l.length cap x.rA x.rs.length x.rc x.mA x.ms.length x.mc x.gA x.gs.length x.gc x.time x.dA x.ds.length x.dc x.lA x.ls.length x.lc) 61)) w.heap.size 33 (Qag ro wi le ke) := (Blk.new w _ _).alloc _
 have P1 : Blk ((w.alloc (.cells (Qag ro wi le ke) 33)).alloc (.cells (Qad te vo base bt A l.length cap x.rA x.rs.length x.rc x.mA x.ms.length x.mc x.gA x.gs.length x.gc x.time x.dA x.ds.length x.dc x.lA x.ls.length x.lc) 61)) (w.heap.size + 1) 61 (Qad te vo base bt A l.length cap x.rA x.rs.length x.rc x.mA x.ms.length x.mc x.gA x.gs.length x.gc x.time x.dA x.ds.length x.dc x.lA x.ls.length x.lc) := by have := Blk.new (w.alloc (.cells (Qag ro wi le ke) 33)) 61 (Qad te vo base bt A l.length cap x.rA x.rs.length x.rc x.mA x.ms.length x.mc x.gA x.gs.length x.gc x.time x.dA x.ds.length x.dc x.lA x.ls.length x.lc); rwa [World.size_alloc] at this
 have B0 : Below w.heap.size w ((w.alloc (.cells (Qag ro wi le ke) 33)).alloc (.cells (Qad te vo base bt A l.length cap x.rA x.rs.length x.rc x.mA x.ms.length x.mc x.gA x.gs.length x.gc x.time x.dA x.ds.length x.dc x.lA x.ls.length x.lc) 61)) := by repeat (first | exact Below.refl _ _ | assumption | refine via0 (by assumption) ?_ | refine Below.drew ?_ | refine Qab ?_ _)
 have H0 := hidP (And.intro B0 (And.intro P0 P1))
 clear P0 P1 B0
 go_enter Tryz.func145, Tryz.ntmps145
 go_wp2_with fail
 refine (E0.out _ H0.out.1).mono ?_
 rintro e w1 ⟨rfl, g1⟩
 have B1 := via0 g1 H0.out.1
 have P0 := H0.out.2.1.below g1 H0.out.2.1.lt
 have P1 := H0.out.2.2.below g1 H0.out.2.2.lt
 clear H0 g1
 obtain ⟨a0, a1, a2, a3⟩ := P0.row4
 obtain ⟨u0, u1, u2, u3, u4, u5, u6, u7, u8, u9, u10⟩ := P1.row11
 have q0 := P0.lt
 have q1 := P1.lt
 cases b1
 . go_wp2_with fail
   refine (E1.out _).mono ?_
   rintro e w2 ⟨rfl, rfl⟩
   go_wp2
   go_ret
   exact ⟨by rw [hF.out]; rfl, B1⟩
 cases b2
 . go_wp2_with fail
   refine (E1.out _).mono ?_
   rintro e w2 ⟨rfl, rfl⟩
   go_wp2_with fail
   refine (E2.out _).mono ?_
   rintro e w2 ⟨rfl, rfl⟩
   go_wp2
   go_ret
   exact ⟨by rw [hF.out]; rfl, B1⟩
 go_wp2_with fail
 refine (E1.out _).mono ?_
 rintro e w2 ⟨rfl, rfl⟩
 go_wp2_with fail
 refine (E2.out _).mono ?_
 rintro e w2 ⟨rfl, rfl⟩
 go_wp2_with fail
 refine (E3.out _ B1).mono ?_
 rintro e w2 ⟨rfl, g2⟩
 have B2 := via0 g2 B1
 have P0' := P0.below g2 P0.lt
 have P1' := P1.below g2 P1.lt
 clear P0 P1 B1 g2 a0 a1 a2 a3 u0 u1 u2 u3 u4 u5 u6 u7 u8 u9 u10 q0 q1
 obtain ⟨a0, a1, a2, a3⟩ := P0'.row4
 obtain ⟨u0, u1, u2, u3, u4, u5, u6, u7, u8, u9, u10⟩ := P1'.row11
 have q0 := P0'.lt
 have q1 := P1'.lt
 cases b3
 . go_wp2
   go_ret
   exact ⟨by rw [hF.out]; rfl, B2⟩
 by_cases h4 : lt <= te
 . rw [decide_eq_true h4] at hF
   go_wp2_with fail
   refine (E5.out _ B2).mono ?_
   rintro e w3 ⟨rfl, g3⟩
   have B3 := via0 g3 B2
   cases b5
   all_goals
    go_wp2
    go_ret
    exact ⟨by rw [hF.out]; rfl, B3⟩
 . rw [decide_eq_false h4] at hF
   go_wp2
   go_ret
   exact ⟨by rw [hF.out]; rfl, B2⟩
def Qg2 (ln : Int) (ns ps : List Int) : Bool := ns.all (fun z => inB z 1 (ln + 1)) && ps.all (fun z => inB z 0 ln)
def Qdc (rpcF : RpP -> Bool) (id : Int) (hs : List RpC) : Bool := hs.all (fun z => rpcF z.p && z.frm == id)
def peerB (rpcF : RpP -> Bool) (ro wi le ke id te vo base bt : Int) (l : List En) (x : KC) (role : Int) (vn nn pn : Nat) (ns ps : List Int) (com : Int) (y : KC) (su : Int) (dn : Nat) (hs : List RpC) (size : Int) : Bool :=
  inB size 1 5 && inB id 0 (size - 1) && Qd2 ro wi le ke te vo base bt l x && decide (vo < size) && inB role 0 2 && decide ((vn : Int) = size) && decide ((nn : Int) = size) && decide ((pn : Int) = size) && Qg2 (Qbc base l) ns ps && Qdc rpcF id hs && inB com base (Qbc base l) && Qbo ro wi le ke y && Qge su dn && decide (hs.length <= 40)
theorem last_in {base bt : Int} {l : List En} (h : logB base bt l = true) : 0 <= Qbc base l /\ Qbc base l <= 300 := by
 simp only [logB, Bool.and_eq_true, decide_eq_true_eq] at h
 obtain ⟨⟨⟨⟨h3, h4⟩, h5⟩, h6⟩, h7⟩ := h
 have h3 := in_le h3
 unfold Qbc
 split
 . exact h3
 . rw [IntKind.wrap_i64]; omega
theorem hard_log {ro wi le ke te vo base bt : Int} {l : List En} {x : KC} (h : Qd2 ro wi le ke te vo base bt l x = true) : logB base bt l = true := by
 simp only [Qd2, Bool.and_eq_true] at h
 exact h.1.1.2
theorem feed_drop {ln : Int} {ns ps : List Int} {n : Nat} (h1 : n < ns.length) (h2 : n < ps.length) : Qg2 ln (ns.drop n) (ps.drop n) = (inB ns[n] 1 (ln + 1) && inB ps[n] 0 ln && Qg2 ln (ns.drop (n + 1)) (ps.drop (n + 1))) := by
 unfold Qg2
 rw [List.drop_eq_getElem_cons h1, List.drop_eq_getElem_cons h2]
 simp only [List.all_cons]
 generalize inB ns[n] 1 (ln + 1) = a
 generalize inB ps[n] 0 ln = b
 cases a<;>cases b<;>simp
theorem hold_drop {rpcF : RpP -> Bool} {id : Int} {hs : List RpC} {n : Nat} (h1 : n < hs.length) : Qdc rpcF id (hs.drop n) = (rpcF hs[n].p && hs[n].frm == id && Qdc rpcF id (hs.drop (n + 1))) := by
 unfold Qdc
 rw [List.drop_eq_getElem_cons h1]
 rfl
end Go.Proofs.YtkmkldjipihceaaGreat.Gen
