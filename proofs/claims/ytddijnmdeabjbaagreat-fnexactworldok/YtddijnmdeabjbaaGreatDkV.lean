/-
  Disks: what the laws' sz, to, eq, mark and held functions of them do; a disk opened. No condition but that there are at most 1048576 bytes.
-/
import Derived.Test.YtddijnmdeabjbaaGreatInts
set_option linter.unusedVariables false
set_option linter.unusedSimpArgs false
set_option maxRecDepth 100000
set_option maxHeartbeats 8000000
namespace Go.Proofs.YtddijnmdeabjbaaGreat.Gen
open ChangeShapes WideShapes ChangeAt RowKit Joins Deep Base
theorem At.hidB {w : World} {A : Option Addr} {l : List UInt8} (hA : At w A l) : Hid (∀ W : World, Below w.heap.size w W -> At W A l) := fun W hW => hA.below hW
theorem Qg7 (A : Option Addr) (cap : Nat) (l : List UInt8) (hl : l.length <= 9223372036854775807) (left : Int) (h0 : 0 <= left) (h1 : left <= 1048576) (w : World) :
 Calls Tryz.prog 113 #[.slice A l.length cap, .int .i64 left] w fun e w' => (∃ r : Int, e = .returned (.int .i64 r) /\ (r < 0 ∨ (0 <= r /\ r = left - (l.length : Int)))) /\ w' = w := by
 generalize l.length = n at hl ⊢
 by_cases hn : left - (n : Int) < 0
 . go_enter Tryz.func113, Tryz.ntmps113
   go_wp2
   go_ret
   exact ⟨⟨-1, rfl, .inl (by omega)⟩, rfl⟩
 . go_enter Tryz.func113, Tryz.ntmps113
   go_wp2
   go_ret
   exact ⟨⟨left - (n : Int), rfl, .inr ⟨by omega, rfl⟩⟩, rfl⟩
theorem szDisk_any (su : Int) (A : Option Addr) (cap : Nat) (l : List UInt8) (hl : l.length <= 9223372036854775807) (left : Int) (h0 : 0 <= left) (h1 : left <= 1048576) (w : World) :
 Calls Tryz.prog 84 #[.agg #[.slice A l.length cap, .int .i64 su], .int .i64 left] w fun e w' => (∃ r : Int, e = .returned (.int .i64 r) /\ (r < 0 ∨ (0 <= r /\ r = left - (l.length : Int)))) /\ Below w.heap.size w w' := by
 go_enter Tryz.func84, Tryz.ntmps84
 go_wp2_with fail
 refine (Qg7 A cap l hl left h0 h1 _).mono ?_
 rintro e w1 ⟨⟨r, rfl, hr⟩, rfl⟩
 have HR := hidP hr
 clear hr
 by_cases hn : r < 0
 . go_wp2
   go_ret
   exact ⟨⟨-1, rfl, .inl (by omega)⟩, by repeat (first | exact Below.refl _ _ | assumption | refine via0 (by assumption) ?_ | refine Below.drew ?_ | refine Qaa ?_ _)⟩
 . go_wp2
   go_ret
   exact ⟨⟨r, rfl, HR.out⟩, by repeat (first | exact Below.refl _ _ | assumption | refine via0 (by assumption) ?_ | refine Below.drew ?_ | refine Qaa ?_ _)⟩
theorem toDisk_any (su : Int) (A : Option Addr) (cap : Nat) (l : List UInt8) (hl : l.length <= 1048576) (w : World) (hA : At w A l) :
 Calls Tryz.prog 94 #[.agg #[.slice A l.length cap, .int .i64 su]] w
  fun e w' => ∃ b, e = .returned (.agg #[.slice (some ⟨b, 0, none⟩) l.length l.length, .int .i64 su]) /\ Below w.heap.size w w' /\ w.heap.size <= b /\ b < w'.heap.size /\ In w' b 0 l /\ w'.there b 0 (l.length * 1) := by
 have HA := hA.hidB
 clear hA
 go_enter Tryz.func94, Tryz.ntmps94
 go_wp2_with (go_at_call 122; refine (toB_any A cap l hl _ (HA.out _ ?_)).mono ?_; (repeat (first | exact Below.refl _ _ | assumption | refine via0 (by assumption) ?_ | refine Below.drew ?_ | refine Qaa ?_ _)); rintro e w1 ⟨rfl, g1, s1, i1, t1⟩; obtain ⟨k1, m1⟩ := Qaf g1)
 have i2 : In w1 (w.heap.size + 1 + 1 + 1) 0 l := by simpa using i1
 have t2 : w1.there (w.heap.size + 1 + 1 + 1) 0 (l.length * 1) := by simpa using t1
 have s2 : w.heap.size + 1 + 1 + 1 < w1.heap.size := by simpa using s1
 have g2 : Below w.heap.size w w1 := via0 g1 (by repeat (first | exact Below.refl _ _ | assumption | refine via0 (by assumption) ?_ | refine Below.drew ?_ | refine Qaa ?_ _))
 refine bodyPost_ret (v := .agg #[.slice (some ⟨w.heap.size + 1 + 1 + 1, 0, none⟩) l.length l.length, .int .i64 su]) (by simp [results, Tryz.results94, go_sem, k1]) rfl ⟨w.heap.size + 1 + 1 + 1, rfl, ?_, by omega, by simp; omega, ?_, ?_⟩
 . exact Qam (Qam (Qam (Qam (g2) (by omega) _) (by omega) _) (by omega) _) (by omega) _
 . exact In.set (In.set (In.set (In.set (i2) _ _ (by simp)) _ _ (by simp)) _ _ (by simp)) _ _ (by simp)
 . exact Qac (Qac (Qac (Qac (t2) _ _ _) _ _ _) _ _ _) _ _ _
theorem Qhn (su : Int) (A A' : Option Addr) (cap cap' : Nat) (l : List UInt8) (hl : l.length <= 9223372036854775807) (w : World) (hA : At w A l) (hA' : At w A' l) :
 Calls Tryz.prog 105 #[.agg #[.slice A l.length cap, .int .i64 su], .agg #[.slice A' l.length cap', .int .i64 su]] w fun e w' => e = .returned (.bool true) /\ Below w.heap.size w w' := by
 have HA := hA.hidB
 have HA' := hA'.hidB
 clear hA hA'
 go_enter Tryz.func105, Tryz.ntmps105
 go_wp2_with (go_at_call 136; refine (eqB_same A A' cap cap' l hl _ (HA.out _ ?_) (HA'.out _ ?_)).mono ?_; (repeat (first | exact Below.refl _ _ | assumption | refine via0 (by assumption) ?_ | refine Below.drew ?_ | refine Qaa ?_ _)); (repeat (first | exact Below.refl _ _ | assumption | refine via0 (by assumption) ?_ | refine Below.drew ?_ | refine Qaa ?_ _)); rintro e w1 ⟨rfl, g1⟩; obtain ⟨k1, m1⟩ := Qaf g1)
 go_ret
 refine ⟨rfl, ?_⟩
 repeat (first | exact Below.refl _ _ | assumption | refine via0 (by assumption) ?_ | refine Below.drew ?_ | refine Qaa ?_ _)
end Go.Proofs.YtddijnmdeabjbaaGreat.Gen
namespace Go.Proofs.YtddijnmdeabjbaaGreat.Gen
open ChangeShapes WideShapes ChangeAt RowKit Joins Deep Base
def inB (x lo hi : Int) : Bool := decide (lo <= x /\ x <= hi)
theorem within_any (x lo hi : Int) (w : World) :
 Calls Tryz.prog 65 #[.int .i64 x, .int .i64 lo, .int .i64 hi] w fun e w' => e = .returned (.bool (inB x lo hi)) /\ w' = w := by
 by_cases h1 : lo <= x
 . by_cases h2 : x <= hi
   . have e : Hid (inB x lo hi = true) := by show _ = _; simp [inB, h1, h2]
     go_enter Tryz.func65, Tryz.ntmps65
     go_wp2
     go_ret
     exact ⟨by rw [e.out]; rfl, rfl⟩
   . have e : Hid (inB x lo hi = false) := by show _ = _; simp [inB, h2]
     have h2' : decide (x <= hi) = false := decide_eq_false h2
     go_enter Tryz.func65, Tryz.ntmps65
     go_wp2
     go_ret
     exact ⟨by rw [e.out]; first | rfl | (rw [← h2']; rfl), rfl⟩
 . have e : Hid (inB x lo hi = false) := by show _ = _; simp [inB, h1]
   go_enter Tryz.func65, Tryz.ntmps65
   go_wp2
   go_ret
   exact ⟨by rw [e.out]; rfl, rfl⟩
theorem in_any (x lo hi : Int) (w : World) :
 Calls Tryz.prog 18 #[.int .i64 x, .int .i64 lo, .int .i64 hi] w fun e w' => e = .returned (.bool (inB x lo hi)) /\ w' = w := by
 by_cases h1 : lo <= x
 . by_cases h2 : x <= hi
   . have e : Hid (inB x lo hi = true) := by show _ = _; simp [inB, h1, h2]
     go_enter Tryz.func18, Tryz.ntmps18
     go_wp2
     go_ret
     exact ⟨by rw [e.out]; rfl, rfl⟩
   . have e : Hid (inB x lo hi = false) := by show _ = _; simp [inB, h2]
     have h2' : decide (x <= hi) = false := decide_eq_false h2
     go_enter Tryz.func18, Tryz.ntmps18
     go_wp2
     go_ret
     exact ⟨by rw [e.out]; first | rfl | (rw [← h2']; rfl), rfl⟩
 . have e : Hid (inB x lo hi = false) := by show _ = _; simp [inB, h1]
   go_enter Tryz.func18, Tryz.ntmps18
   go_wp2
   go_ret
   exact ⟨by rw [e.out]; rfl, rfl⟩
end Go.Proofs.YtddijnmdeabjbaaGreat.Gen
namespace Go.Proofs.YtddijnmdeabjbaaGreat.Gen
open ChangeShapes WideShapes ChangeAt RowKit Joins Deep Base
def Qfm (su : Int) (n : Nat) : Bool := decide (n <= 80000) && inB su 0 (n : Int)
theorem Qd3 (su : Int) (A : Option Addr) (n cap : Nat) (hn : n <= 9223372036854775807) (w : World) :
 Calls Tryz.prog 58 #[.agg #[.slice A n cap, .int .i64 su]] w fun e w' => e = .returned (.bool (Qfm su n)) /\ Below w.heap.size w w' := by
 have e : Qfm su n = (decide ((n : Int) <= 80000) && inB su 0 (n : Int)) := by
  unfold Qfm; congr 1; simp; omega
 rw [e]
 clear e
 by_cases h : (n : Int) <= 80000
 all_goals
  go_enter Tryz.func58, Tryz.ntmps58
  go_wp2_with (go_at_call 18; refine (in_any _ _ _ _).mono ?_; rintro e w' ⟨rfl, rfl⟩)
  go_ret
  exact ⟨by simp [h]<;>(intro h2; omega), by repeat (first | exact Below.refl _ _ | assumption | refine via0 (by assumption) ?_ | refine Below.drew ?_ | refine Qaa ?_ _)⟩
theorem Qeb (su : Int) (A : Option Addr) (n cap : Nat) (hn : n <= 9223372036854775807) (w : World) :
 Calls Tryz.prog 128 #[.agg #[.slice A n cap, .int .i64 su]] w fun e w' => e = .returned (.bool (Qfm su n)) /\ Below w.heap.size w w' := by
 have e : Qfm su n = (decide ((n : Int) <= 80000) && inB su 0 (n : Int)) := by
  unfold Qfm; congr 1; simp; omega
 rw [e]
 clear e
 by_cases h : (n : Int) <= 80000
 all_goals
  go_enter Tryz.func128, Tryz.ntmps128
  go_wp2_with (go_at_call 65; refine (within_any _ _ _ _).mono ?_; rintro e w' ⟨rfl, rfl⟩)
  go_ret
  exact ⟨by simp [h]<;>(intro h2; omega), by repeat (first | exact Below.refl _ _ | assumption | refine via0 (by assumption) ?_ | refine Below.drew ?_ | refine Qaa ?_ _)⟩
end Go.Proofs.YtddijnmdeabjbaaGreat.Gen
namespace Go.Proofs.YtddijnmdeabjbaaGreat.Gen
section
variable {P : Program} {ops : Array Oper} {Q : Exit -> Act -> World -> Prop} {md : Region.Mode} {S : World -> Prop} {z : Nat}
def Qba (md : Region.Mode) (ops : Array Oper) (z : Nat) : Bool :=
  match ops[z]? with
  | none => false
  | some o => (List.range ops.size).all fun j => j == z || o.after.any fun e => Region.binds md e && e.on == j
theorem not_last {i : Nat} {L : Array Bool} (hz : Qba md ops z = true) (hi : i ∈ Region.ready md ops L) (hne : i ≠ z) : z ∉ Region.ready md ops L := fun h => by
 obtain ⟨hu, oi, hoi, _⟩ := mem_ready.1 hi
 obtain ⟨_, oz, hoz, hall⟩ := mem_ready.1 h
 have hlt : i < ops.size := (Array.getElem?_eq_some_iff.1 hoi).1
 simp only [Qba, hoz, List.all_eq_true, List.mem_range, Bool.or_eq_true, beq_iff_eq] at hz
 have h1 := (hz i hlt).resolve_left hne
 obtain ⟨e, he, hb⟩ := Array.any_eq_true'.1 h1
 simp only [Bool.and_eq_true, beq_iff_eq] at hb
 have h2 := hall e he hb.1
 rw [hb.2] at h2
 rcases Nat.lt_or_ge i L.size with h' | h'
 . simp [h'] at hu h2
   rw [hu] at h2; cases h2
 . simp [Array.getElem?_eq_none h'] at h2
def Qbp (P : Program) (md : Region.Mode) (ops : Array Oper) (Q : Exit -> Act -> World -> Prop) (S : World -> Prop) (z : Nat) : Nat -> Array Bool -> Act -> World -> Prop
  | 0, L, a, w => Region.ready md ops L = [] /\ Q .normal a w
  | n + 1, L, a, w => (Region.ready md ops L = [] -> Q .normal a w) /\
    ∀ i ∈ Region.ready md ops L, wpOp P ops Q i (fun a' w' => (i = z ∨ S w') /\ Qbp P md ops Q S z n (L.setIfInBounds i true) a' w') a w
theorem upTo_take {i : Nat} {oi : Oper} {v : Value} (hz : Qba md ops z = true) (hi : ops[i]? = some oi) (hs : Region.noSelect ops = true) (hQ : ∀ c a w, Q (.panic c) (a.put oi.dst v) w -> Q (.panic c) a w) (hiz : i ≠ z) (n : Nat) :
 ∀ (L : Array Bool) (a : Act) (w : World), Region.free md ops L i = true -> i ∈ Region.ready md ops L -> YieldsIf P ops S oi v a -> S w ->
  Qbp P md ops Q S z n (L.setIfInBounds i true) (a.put oi.dst v) w -> Qbp P md ops Q S z (n + 1) L a w := by
 have sel : ∀ (j : Nat) (o : Oper) cs b, ops[j]? = some o -> o.op ≠ .select cs b := Region.noSelect_spec hs
 suffices key : ∀ (L : Array Bool) (a : Act) (w : World), (∀ j oj, ops[j]? = some oj -> j ≠ i -> L.getD j true = false -> (∀ e ∈ oj.after, Region.binds md e = true -> e.on ≠ i) -> oi.apart ops oj = true) ->
  i ∈ Region.ready md ops L -> YieldsIf P ops S oi v a -> S w -> Qbp P md ops Q S z n (L.setIfInBounds i true) (a.put oi.dst v) w -> Qbp P md ops Q S z (n + 1) L a w from
  fun L a w hf hr hy hS H => key L a w (Region.free_spec hi hf) hr hy hS H
 induction n with
 | zero =>
  intro L a w _ hr hy hS H
  constructor
  . intro h; rw [h] at hr; exact absurd hr (List.not_mem_nil)
  . intro j hj
    rcases Decidable.em (j = i) with e | e
    . subst e; exact hy.wpOp hi hS ⟨.inr hS, H⟩
    . have g := ready_mono hj e
      rw [H.1] at g
      exact absurd g (List.not_mem_nil)
 | succ n ih =>
  intro L a w hfr hr hy hS H
  constructor
  . intro h; rw [h] at hr; exact absurd hr (List.not_mem_nil)
  . intro j hj
    rcases Decidable.em (j = i) with e | e
    . subst e; exact hy.wpOp hi hS ⟨.inr hS, H⟩
    . obtain ⟨hun, oj, hoj, hwait⟩ := mem_ready.1 hj
      have hjz : j ≠ z := fun h => by subst h; exact not_last hz hr hiz hj
      have iun := (mem_ready.1 hr).1
      have hno : ∀ d ∈ oj.after, Region.binds md d = true -> d.on ≠ i := fun d hd hb q => by
       have g := hwait d hd hb
       rw [q] at g
       rcases Nat.lt_or_ge i L.size with k | k
       . simp [k] at iun g
         rw [iun] at g; cases g
       . simp [Array.getElem?_eq_none k] at g
      have step := wpOp_putIf hoj (hfr j oj hoj e hun hno) (fun cs b => sel i oi cs b hi) (fun cs b => sel j oj cs b hoj) hQ hy (H.2 j (ready_mono hj e))
      refine wpOp_mono (fun a' w' g => ?_) step
      have hS' : S w' := g.2.1.resolve_left hjz
      refine ⟨.inr hS', ih _ a' w' (fun k ok hk hki hu hn => ?_) (ready_mono hr (Ne.symm e)) g.1 hS' ?_⟩
      . refine hfr k ok hk hki ?_ hn
        rcases Decidable.em (j = k) with q | q
        . subst q; exact hun
        . rwa [getD_set_ne true q] at hu
      . have := g.2.2
        rwa [Array.setIfInBounds_comm _ _ (Ne.symm e)] at this
theorem Qei {i : Nat} {oi : Oper} {v : Value} {n : Nat} {L : Array Bool} {a : Act} {w : World} (hz : Qba md ops z = true) (hi : ops[i]? = some oi) (hs : Region.noSelect ops = true) (hiz : i ≠ z)
 (hf : Region.free md ops L i = true) (hr : (Region.ready md ops L).contains i = true) (hQ : ∀ c a w, Q (.panic c) (a.put oi.dst v) w -> Q (.panic c) a w) (hy : YieldsIf P ops S oi v a) (hS : S w)
 (h : Qbp P md ops Q S z n (L.setIfInBounds i true) (a.put oi.dst v) w) : Qbp P md ops Q S z (n + 1) L a w :=
 upTo_take hz hi hs hQ hiz n L a w hf (by simpa using hr) hy hS h
end
end Go.Proofs.YtddijnmdeabjbaaGreat.Gen
namespace Go.Proofs.YtddijnmdeabjbaaGreat
open Gen
theorem zG {α : Type} : (∀ (l : List α) (i : Nat) (h : i < l.toArray.size), l.toArray[i] = l[i]'(by simpa using h)) /\ (∀ (a : α) (l : List α) (i : Nat) (h : i + 1 < (a :: l).length), (a :: l)[i + 1] = l[i]'(by simpa using h)) /\ (∀ (a : α) (l : List α) (h : 0 < (a :: l).length), (a :: l)[0] = a) := ⟨fun _ _ _ => rfl, fun _ _ _ _ => rfl, fun _ _ _ => rfl⟩
theorem zY {α : Type} : (∀ (l : List α) (i : Nat) (h : i < l.toArray.size), l.toArray[i] = l[i]'(by simpa using h)) /\ (∀ (a : α) (l : List α) (i : Nat) (h : i + 1 < (a :: l).length), (a :: l)[i + 1] = l[i]'(by simpa using h)) /\ (∀ (a : α) (l : List α) (h : 0 < (a :: l).length), (a :: l)[0] = a) /\ (∀ (l : List α) (i : Nat) (v : α), l.toArray.setIfInBounds i v = (l.set i v).toArray) /\ (∀ (a v : α) (l : List α), (a :: l).set 0 v = v :: l) /\ (∀ (a v : α) (l : List α) (i : Nat), (a :: l).set (i + 1) v = a :: l.set i v) := ⟨fun _ _ _ => rfl, fun _ _ _ _ => rfl, fun _ _ _ => rfl, fun _ _ _ => by simp, fun _ _ _ => rfl, fun _ _ _ _ => rfl⟩
theorem zX : (∀ (a : Act) (v : Value), a.put none v = a) /\ (∀ (a : Act) (t : Tmp) (v : Value), a.put (some t) v = { a with tmps := a.tmps.setIfInBounds t v }) := ⟨fun _ _ => rfl, fun _ _ _ => rfl⟩
section
variable {P : Program} {md : Region.Mode} {ops : Array Oper} {Q : Go.Exit -> Act -> World -> Prop} {S : World -> Prop} {fuel : Nat} {listed : Array Bool} {a : Act} {w : World}
def ZTk (_ : List Nat) (P : Program) (md : Region.Mode) (ops : Array Oper) (Q : Go.Exit -> Act -> World -> Prop) (S : World -> Prop) (fuel : Nat) (listed : Array Bool) (a : Act) (w : World) : Prop := wpAnyH P md ops Q S fuel listed a w
theorem ztk (is : List Nat) (h : ZTk is P md ops Q S fuel listed a w) : wpAnyH P md ops Q S fuel listed a w := h
theorem zt1 (i : Nat) (h : ZTk [i] P md ops Q S fuel listed a w) : wpAnyH P md ops Q S fuel listed a w := h
theorem zte (h : wpAnyH P md ops Q S fuel listed a w) : ZTk [] P md ops Q S fuel listed a w := h
theorem ztn {i : Nat} {is : List Nat} {oi : Oper} {v : Value} (hi : ops[i]? = some oi := by rfl) (hw : Region.wanted oi (yielded ops a.tmps) = true := by rfl) (hy : ∀ w, S w -> (execOp a.eval oi).run P w = .ok (.value v) w := by (intro w hSw; (try dsimp only at hSw); go_simp<;>with_reducible rfl)) (hS : S w := by assumption) (hs : Region.noSelect ops = true := by kernel_rfl) (hf : Region.free md ops listed i = true := by kernel_rfl) (hr : (Region.ready md ops listed).contains i = true := by kernel_rfl)
 (hQ : ∀ c a w, Q (.panic c) (a.put oi.dst v) w -> Q (.panic c) a w := by exact fun _ _ _ h => h) (h : ZTk is P md ops Q S fuel (listed.setIfInBounds i true) (a.put oi.dst v) w) : ZTk (i :: is) P md ops Q S (fuel + 1) listed a w := wpAnyH_take hi hs hf hr hQ (.inl ⟨hw, hy⟩) hS h
theorem ztu {i : Nat} {is : List Nat} {oi : Oper} (hi : ops[i]? = some oi := by rfl) (hw : Region.wanted oi (yielded ops a.tmps) = false := by rfl) (hS : S w := by assumption) (hs : Region.noSelect ops = true := by kernel_rfl) (hf : Region.free md ops listed i = true := by kernel_rfl) (hr : (Region.ready md ops listed).contains i = true := by kernel_rfl)
 (hQ : ∀ c a w, Q (.panic c) (a.put oi.dst undef) w -> Q (.panic c) a w := by exact fun _ _ _ h => h) (h : ZTk is P md ops Q S fuel (listed.setIfInBounds i true) (a.put oi.dst undef) w) : ZTk (i :: is) P md ops Q S (fuel + 1) listed a w := wpAnyH_take hi hs hf hr hQ (.inr ⟨hw, rfl⟩) hS h
theorem zR1 (i : Nat) {o : Oper} (h : ∀ K' : Act -> World -> Prop, Shut (∀ a w, S w -> (S w -> wpAnyH P md ops Q S fuel (listed.setIfInBounds i true) a w) -> K' a w) -> if Region.wanted o (yielded ops a.tmps) = true then Oper.wp P o a w K' Q else K' (a.put o.dst undef) w) (ho : ops[i]? = some o := by rfl) (hr : Region.ready md ops listed = [i] := by kernel_rfl) : wpAnyH P md ops Q S (fuel + 1) listed a w := wpAnyH_ready hr (by simp) (.cons ho h .nil)
theorem zR2 (i j : Nat) {o o2 : Oper} (h : ∀ K' : Act -> World -> Prop, Shut (∀ a w, S w -> (S w -> wpAnyH P md ops Q S fuel (listed.setIfInBounds i true) a w) -> K' a w) -> if Region.wanted o (yielded ops a.tmps) = true then Oper.wp P o a w K' Q else K' (a.put o.dst undef) w) (h2 : ∀ K' : Act -> World -> Prop, Shut (∀ a w, S w -> (S w -> wpAnyH P md ops Q S fuel (listed.setIfInBounds j true) a w) -> K' a w) -> if Region.wanted o2 (yielded ops a.tmps) = true then Oper.wp P o2 a w K' Q else K' (a.put o2.dst undef) w)
 (ho : ops[i]? = some o := by rfl) (ho2 : ops[j]? = some o2 := by rfl) (hr : Region.ready md ops listed = [i, j] := by kernel_rfl) : wpAnyH P md ops Q S (fuel + 1) listed a w := wpAnyH_ready hr (by simp) (.cons ho h (.cons ho2 h2 .nil))
theorem zR3 (i j k : Nat) {o o2 o3 : Oper} (h : ∀ K' : Act -> World -> Prop, Shut (∀ a w, S w -> (S w -> wpAnyH P md ops Q S fuel (listed.setIfInBounds i true) a w) -> K' a w) -> if Region.wanted o (yielded ops a.tmps) = true then Oper.wp P o a w K' Q else K' (a.put o.dst undef) w) (h2 : ∀ K' : Act -> World -> Prop, Shut (∀ a w, S w -> (S w -> wpAnyH P md ops Q S fuel (listed.setIfInBounds j true) a w) -> K' a w) -> if Region.wanted o2 (yielded ops a.tmps) = true then Oper.wp P o2 a w K' Q else K' (a.put o2.dst undef) w)
 (h3 : ∀ K' : Act -> World -> Prop, Shut (∀ a w, S w -> (S w -> wpAnyH P md ops Q S fuel (listed.setIfInBounds k true) a w) -> K' a w) -> if Region.wanted o3 (yielded ops a.tmps) = true then Oper.wp P o3 a w K' Q else K' (a.put o3.dst undef) w)
 (ho : ops[i]? = some o := by rfl) (ho2 : ops[j]? = some o2 := by rfl) (ho3 : ops[k]? = some o3 := by rfl) (hr : Region.ready md ops listed = [i, j, k] := by kernel_rfl) : wpAnyH P md ops Q S (fuel + 1) listed a w := wpAnyH_ready hr (by simp) (.cons ho h (.cons ho2 h2 (.cons ho3 h3 .nil)))
theorem zdn (h : Q .normal a w) (hr : Region.ready md ops listed = [] := by kernel_rfl) : wpAnyH P md ops (NoPanic Q) S fuel listed a w := wpAnyH_done hr (NoPanic.normal h) _
end
section
variable {P : Program} {md : Region.Mode} {ops : Array Oper} {Q : Go.Exit -> Act -> World -> Prop} {S : World -> Prop} {z fuel : Nat} {listed : Array Bool} {a : Act} {w : World}
def ZPk (_ : List Nat) (P : Program) (md : Region.Mode) (ops : Array Oper) (Q : Go.Exit -> Act -> World -> Prop) (S : World -> Prop) (z fuel : Nat) (listed : Array Bool) (a : Act) (w : World) : Prop := Qbp P md ops Q S z fuel listed a w
theorem zpk (is : List Nat) (h : ZPk is P md ops Q S z fuel listed a w) : Qbp P md ops Q S z fuel listed a w := h
theorem zp1 (i : Nat) (h : ZPk [i] P md ops Q S z fuel listed a w) : Qbp P md ops Q S z fuel listed a w := h
theorem zpe (h : Qbp P md ops Q S z fuel listed a w) : ZPk [] P md ops Q S z fuel listed a w := h
theorem zpn {i : Nat} {is : List Nat} {oi : Oper} {v : Value} (hi : ops[i]? = some oi := by rfl) (hw : Region.wanted oi (yielded ops a.tmps) = true := by rfl) (hy : ∀ w, S w -> (execOp a.eval oi).run P w = .ok (.value v) w := by (intro w hSw; (try dsimp only at hSw); go_simp<;>with_reducible rfl)) (hS : S w := by assumption) (hz : Qba md ops z = true := by kernel_rfl) (hs : Region.noSelect ops = true := by kernel_rfl) (hiz : i ≠ z := by decide) (hf : Region.free md ops listed i = true := by kernel_rfl) (hr : (Region.ready md ops listed).contains i = true := by kernel_rfl)
 (hQ : ∀ c a w, Q (.panic c) (a.put oi.dst v) w -> Q (.panic c) a w := by exact fun _ _ _ h => h) (h : ZPk is P md ops Q S z fuel (listed.setIfInBounds i true) (a.put oi.dst v) w) : ZPk (i :: is) P md ops Q S z (fuel + 1) listed a w := Qei hz hi hs hiz hf hr hQ (.inl ⟨hw, hy⟩) hS h
theorem zpu {i : Nat} {is : List Nat} {oi : Oper} (hi : ops[i]? = some oi := by rfl) (hw : Region.wanted oi (yielded ops a.tmps) = false := by rfl) (hS : S w := by assumption) (hz : Qba md ops z = true := by kernel_rfl) (hs : Region.noSelect ops = true := by kernel_rfl) (hiz : i ≠ z := by decide) (hf : Region.free md ops listed i = true := by kernel_rfl) (hr : (Region.ready md ops listed).contains i = true := by kernel_rfl)
 (hQ : ∀ c a w, Q (.panic c) (a.put oi.dst undef) w -> Q (.panic c) a w := by exact fun _ _ _ h => h) (h : ZPk is P md ops Q S z fuel (listed.setIfInBounds i true) (a.put oi.dst undef) w) : ZPk (i :: is) P md ops Q S z (fuel + 1) listed a w := Qei hz hi hs hiz hf hr hQ (.inr ⟨hw, rfl⟩) hS h
end
end Go.Proofs.YtddijnmdeabjbaaGreat
