/-
  Disks: what the laws' sz, to, eq, mark and held functions of them do; a disk opened. No condition but that there are at most 1048576 bytes.
-/
import Derived.Test.YtkmkldjipihceaaGreatInts
import Derived.Test.YtkmkldjipihceaaGreatItems
set_option linter.unusedVariables false
set_option linter.unusedSimpArgs false
set_option maxRecDepth 100000
set_option maxHeartbeats 8000000
set_option maxRecDepth 100000
set_option maxHeartbeats 8000000
namespace Go.Proofs.YtkmkldjipihceaaGreat.Gen
open ChangeShapes WideShapes ChangeAt RowKit Joins Deep Base
theorem At.hidB {w : World} {A : Option Addr} {l : List UInt8} (hA : At w A l) : Hid (∀ W : World, Below w.heap.size w W -> At W A l) := fun W hW => hA.below hW
theorem Qhx (A : Option Addr) (cap : Nat) (l : List UInt8) (hl : l.length <= 9223372036854775807) (left : Int) (h0 : 0 <= left) (h1 : left <= 1048576) (w : World) :
 Calls Tryz.prog 112 #[.slice A l.length cap, .int .i64 left] w fun e w' => (∃ r : Int, e = .returned (.int .i64 r) /\ (r < 0 ∨ (0 <= r /\ r = left - (l.length : Int)))) /\ w' = w := by
 generalize l.length = n at hl ⊢
 by_cases hn : left - (n : Int) < 0
 . go_enter Tryz.func112, Tryz.ntmps112
   go_wp2
   go_ret
   exact ⟨⟨-1, rfl, .inl (by omega)⟩, rfl⟩
 . go_enter Tryz.func112, Tryz.ntmps112
   go_wp2
   go_ret
   exact ⟨⟨left - (n : Int), rfl, .inr ⟨by omega, rfl⟩⟩, rfl⟩
theorem szDisk_any (su : Int) (A : Option Addr) (cap : Nat) (l : List UInt8) (hl : l.length <= 9223372036854775807) (left : Int) (h0 : 0 <= left) (h1 : left <= 1048576) (w : World) :
 Calls Tryz.prog 74 #[.agg #[.slice A l.length cap, .int .i64 su], .int .i64 left] w fun e w' => (∃ r : Int, e = .returned (.int .i64 r) /\ (r < 0 ∨ (0 <= r /\ r = left - (l.length : Int)))) /\ Below w.heap.size w w' := by
 go_enter Tryz.func74, Tryz.ntmps74
 go_wp2_with fail
 refine (Qhx A cap l hl left h0 h1 _).mono ?_
 rintro e w1 ⟨⟨r, rfl, hr⟩, rfl⟩
 have HR := hidP hr
 clear hr
 by_cases hn : r < 0
 . go_wp2
   go_ret
   exact ⟨⟨-1, rfl, .inl (by omega)⟩, by repeat (first | exact Below.refl _ _ | assumption | refine via0 (by assumption) ?_ | refine Below.drew ?_ | refine Qab ?_ _)⟩
 . go_wp2
   go_ret
   exact ⟨⟨r, rfl, HR.out⟩, by repeat (first | exact Below.refl _ _ | assumption | refine via0 (by assumption) ?_ | refine Below.drew ?_ | refine Qab ?_ _)⟩
theorem toDisk_any (su : Int) (A : Option Addr) (cap : Nat) (l : List UInt8) (hl : l.length <= 1048576) (w : World) (hA : At w A l) :
 Calls Tryz.prog 86 #[.agg #[.slice A l.length cap, .int .i64 su]] w
  fun e w' => ∃ b, e = .returned (.agg #[.slice (some ⟨b, 0, none⟩) l.length l.length, .int .i64 su]) /\ Below w.heap.size w w' /\ w.heap.size <= b /\ b < w'.heap.size /\ In w' b 0 l /\ w'.there b 0 (l.length * 1) := by
 have HA := hA.hidB
 clear hA
 go_enter Tryz.func86, Tryz.ntmps86
 go_wp2_with (go_at_call 123; refine (toB_any A cap l hl _ (HA.out _ ?_)).mono ?_; (repeat (first | exact Below.refl _ _ | assumption | refine via0 (by assumption) ?_ | refine Below.drew ?_ | refine Qab ?_ _)); rintro e w1 ⟨rfl, g1, s1, i1, t1⟩; obtain ⟨k1, m1⟩ := Qax g1)
 have i2 : In w1 (w.heap.size + 1 + 1 + 1) 0 l := by simpa using i1
 have t2 : w1.there (w.heap.size + 1 + 1 + 1) 0 (l.length * 1) := by simpa using t1
 have s2 : w.heap.size + 1 + 1 + 1 < w1.heap.size := by simpa using s1
 have g2 : Below w.heap.size w w1 := via0 g1 (by repeat (first | exact Below.refl _ _ | assumption | refine via0 (by assumption) ?_ | refine Below.drew ?_ | refine Qab ?_ _))
 refine bodyPost_ret (v := .agg #[.slice (some ⟨w.heap.size + 1 + 1 + 1, 0, none⟩) l.length l.length, .int .i64 su]) (by simp [results, Tryz.results86, go_sem, k1]) rfl ⟨w.heap.size + 1 + 1 + 1, rfl, ?_, by omega, by simp; omega, ?_, ?_⟩
 . exact Qa5 (Qa5 (Qa5 (Qa5 (g2) (by omega) _) (by omega) _) (by omega) _) (by omega) _
 . exact In.set (In.set (In.set (In.set (i2) _ _ (by simp)) _ _ (by simp)) _ _ (by simp)) _ _ (by simp)
 . exact Qaj (Qaj (Qaj (Qaj (t2) _ _ _) _ _ _) _ _ _) _ _ _
theorem Qid (su : Int) (A A' : Option Addr) (cap cap' : Nat) (l : List UInt8) (hl : l.length <= 9223372036854775807) (w : World) (hA : At w A l) (hA' : At w A' l) :
 Calls Tryz.prog 103 #[.agg #[.slice A l.length cap, .int .i64 su], .agg #[.slice A' l.length cap', .int .i64 su]] w fun e w' => e = .returned (.bool true) /\ Below w.heap.size w w' := by
 have HA := hA.hidB
 have HA' := hA'.hidB
 clear hA hA'
 go_enter Tryz.func103, Tryz.ntmps103
 go_wp2_with (go_at_call 135; refine (eqB_same A A' cap cap' l hl _ (HA.out _ ?_) (HA'.out _ ?_)).mono ?_; (repeat (first | exact Below.refl _ _ | assumption | refine via0 (by assumption) ?_ | refine Below.drew ?_ | refine Qab ?_ _)); (repeat (first | exact Below.refl _ _ | assumption | refine via0 (by assumption) ?_ | refine Below.drew ?_ | refine Qab ?_ _)); rintro e w1 ⟨rfl, g1⟩; obtain ⟨k1, m1⟩ := Qax g1)
 go_ret
 refine ⟨rfl, ?_⟩
 repeat (first | exact Below.refl _ _ | assumption | refine via0 (by assumption) ?_ | refine Below.drew ?_ | refine Qab ?_ _)
def inB (x lo hi : Int) : Bool := decide (lo <= x /\ x <= hi)
theorem within_any (x lo hi : Int) (w : World) :
 Calls Tryz.prog 89 (Qa4 x lo hi) w fun e w' => e = .returned (.bool (inB x lo hi)) /\ w' = w := by
 by_cases h1 : lo <= x
 . by_cases h2 : x <= hi
   . have e : Hid (inB x lo hi = true) := by show _ = _; simp [inB, h1, h2]
     go_enter Tryz.func89, Tryz.ntmps89
     go_wp2
     go_ret
     exact ⟨by rw [e.out]; rfl, rfl⟩
   . have e : Hid (inB x lo hi = false) := by show _ = _; simp [inB, h2]
     have h2' : decide (x <= hi) = false := decide_eq_false h2
     go_enter Tryz.func89, Tryz.ntmps89
     go_wp2
     go_ret
     exact ⟨by rw [e.out]; first | rfl | (rw [← h2']; rfl), rfl⟩
 . have e : Hid (inB x lo hi = false) := by show _ = _; simp [inB, h1]
   go_enter Tryz.func89, Tryz.ntmps89
   go_wp2
   go_ret
   exact ⟨by rw [e.out]; rfl, rfl⟩
theorem in_any (x lo hi : Int) (w : World) :
 Calls Tryz.prog 32 (Qa4 x lo hi) w fun e w' => e = .returned (.bool (inB x lo hi)) /\ w' = w := by
 by_cases h1 : lo <= x
 . by_cases h2 : x <= hi
   . have e : Hid (inB x lo hi = true) := by show _ = _; simp [inB, h1, h2]
     go_enter Tryz.func32, Tryz.ntmps32
     go_wp2
     go_ret
     exact ⟨by rw [e.out]; rfl, rfl⟩
   . have e : Hid (inB x lo hi = false) := by show _ = _; simp [inB, h2]
     have h2' : decide (x <= hi) = false := decide_eq_false h2
     go_enter Tryz.func32, Tryz.ntmps32
     go_wp2
     go_ret
     exact ⟨by rw [e.out]; first | rfl | (rw [← h2']; rfl), rfl⟩
 . have e : Hid (inB x lo hi = false) := by show _ = _; simp [inB, h1]
   go_enter Tryz.func32, Tryz.ntmps32
   go_wp2
   go_ret
   exact ⟨by rw [e.out]; rfl, rfl⟩
def Qge (su : Int) (n : Nat) : Bool := decide (n <= 80000) && inB su 0 (n : Int)
theorem Qer (su : Int) (A : Option Addr) (n cap : Nat) (hn : n <= 9223372036854775807) (w : World) :
 Calls Tryz.prog 80 #[.agg #[.slice A n cap, .int .i64 su]] w fun e w' => e = .returned (.bool (Qge su n)) /\ Below w.heap.size w w' := by
 have e : Qge su n = (decide ((n : Int) <= 80000) && inB su 0 (n : Int)) := by
  unfold Qge; congr 1; simp; omega
 rw [e]
 clear e
 by_cases h : (n : Int) <= 80000
 all_goals
  go_enter Tryz.func80, Tryz.ntmps80
  go_wp2_with (go_at_call 32; refine (in_any _ _ _ _).mono ?_; rintro e w' ⟨rfl, rfl⟩)
  go_ret
  exact ⟨by simp [h]<;>(intro h2; omega), by repeat (first | exact Below.refl _ _ | assumption | refine via0 (by assumption) ?_ | refine Below.drew ?_ | refine Qab ?_ _)⟩
theorem Qez (su : Int) (A : Option Addr) (n cap : Nat) (hn : n <= 9223372036854775807) (w : World) :
 Calls Tryz.prog 148 #[.agg #[.slice A n cap, .int .i64 su]] w fun e w' => e = .returned (.bool (Qge su n)) /\ Below w.heap.size w w' := by
 have e : Qge su n = (decide ((n : Int) <= 80000) && inB su 0 (n : Int)) := by
  unfold Qge; congr 1; simp; omega
 rw [e]
 clear e
 by_cases h : (n : Int) <= 80000
 all_goals
  go_enter Tryz.func148, Tryz.ntmps148
  go_wp2_with (go_at_call 89; refine (within_any _ _ _ _).mono ?_; rintro e w' ⟨rfl, rfl⟩)
  go_ret
  exact ⟨by simp [h]<;>(intro h2; omega), by repeat (first | exact Below.refl _ _ | assumption | refine via0 (by assumption) ?_ | refine Below.drew ?_ | refine Qab ?_ _)⟩
section
variable {P : Program} {ops : Array Oper} {Q : Exit -> Act -> World -> Prop} {md : Region.Mode} {S : World -> Prop} {z : Nat}
def Qbu (md : Region.Mode) (ops : Array Oper) (z : Nat) : Bool :=
  match ops[z]? with
  | none => false
  | some o => (List.range ops.size).all fun j => j == z || o.after.any fun e => Region.binds md e && e.on == j
theorem not_last {i : Nat} {L : Array Bool} (hz : Qbu md ops z = true) (hi : i ∈ Region.ready md ops L) (hne : i ≠ z) : z ∉ Region.ready md ops L := fun h => by
 obtain ⟨hu, oi, hoi, _⟩ := mem_ready.1 hi
 obtain ⟨_, oz, hoz, hall⟩ := mem_ready.1 h
 have hlt : i < ops.size := (Array.getElem?_eq_some_iff.1 hoi).1
 simp only [Qbu, hoz, List.all_eq_true, List.mem_range, Bool.or_eq_true, beq_iff_eq] at hz
 have h1 := (hz i hlt).resolve_left hne
 obtain ⟨e, he, hb⟩ := Array.any_eq_true'.1 h1
 simp only [Bool.and_eq_true, beq_iff_eq] at hb
 have h2 := hall e he hb.1
 rw [hb.2] at h2
 rcases Nat.lt_or_ge i L.size with h' | h'
 . simp [h'] at hu h2
   rw [hu] at h2; cases h2
 . simp [Array.getElem?_eq_none h'] at h2
def Qb9 (P : Program) (md : Region.Mode) (ops : Array Oper) (Q : Exit -> Act -> World -> Prop) (S : World -> Prop) (z : Nat) : Nat -> Array Bool -> Act -> World -> Prop
  | 0, L, a, w => Region.ready md ops L = [] /\ Q .normal a w
  | n + 1, L, a, w => (Region.ready md ops L = [] -> Q .normal a w) /\
    ∀ i ∈ Region.ready md ops L, wpOp P ops Q i (fun a' w' => (i = z ∨ S w') /\ Qb9 P md ops Q S z n (L.setIfInBounds i true) a' w') a w
theorem upTo_take {i : Nat} {oi : Oper} {v : Value} (hz : Qbu md ops z = true) (hi : ops[i]? = some oi) (hs : Region.noSelect ops = true) (hQ : ∀ c a w, Q (.panic c) (a.put oi.dst v) w -> Q (.panic c) a w) (hiz : i ≠ z) (n : Nat) :
 ∀ (L : Array Bool) (a : Act) (w : World), Region.free md ops L i = true -> i ∈ Region.ready md ops L -> YieldsIf P ops S oi v a -> S w ->
  Qb9 P md ops Q S z n (L.setIfInBounds i true) (a.put oi.dst v) w -> Qb9 P md ops Q S z (n + 1) L a w := by
 have sel : ∀ (j : Nat) (o : Oper) cs b, ops[j]? = some o -> o.op ≠ .select cs b := Region.noSelect_spec hs
 suffices key : ∀ (L : Array Bool) (a : Act) (w : World), (∀ j oj, ops[j]? = some oj -> j ≠ i -> L.getD j true = false -> (∀ e ∈ oj.after, Region.binds md e = true -> e.on ≠ i) -> oi.apart ops oj = true) ->
  i ∈ Region.ready md ops L -> YieldsIf P ops S oi v a -> S w -> Qb9 P md ops Q S z n (L.setIfInBounds i true) (a.put oi.dst v) w -> Qb9 P md ops Q S z (n + 1) L a w from
  fun L a w hf hr hy hS H => key L a w (Region.free_spec hi hf) hr hy hS H
 induction n with
 | zero =>
  intro L a w _ hr hy hS H
  constructor
  . intro h; rw [h] at hr; exact absurd hr (List.not_mem_nil)
  . intro j hj
    rcases Decidable.em (j = i) with e | e
    . subst e; exact hy.wpOp hi hS ⟨.inr hS, H⟩
    . have g := ready_mono hj e
      rw [H.1] at g
      exact absurd g (List.not_mem_nil)
 | succ n ih =>
  intro L a w hfr hr hy hS H
  constructor
  . intro h; rw [h] at hr; exact absurd hr (List.not_mem_nil)
  . intro j hj
    rcases Decidable.em (j = i) with e | e
    . subst e; exact hy.wpOp hi hS ⟨.inr hS, H⟩
    . obtain ⟨hun, oj, hoj, hwait⟩ := mem_ready.1 hj
      have hjz : j ≠ z := fun h => by subst h; exact not_last hz hr hiz hj
      have iun := (mem_ready.1 hr).1
      have hno : ∀ d ∈ oj.after, Region.binds md d = true -> d.on ≠ i := fun d hd hb q => by
       have g := hwait d hd hb
       rw [q] at g
       rcases Nat.lt_or_ge i L.size with k | k
       . simp [k] at iun g
         rw [iun] at g; cases g
       . simp [Array.getElem?_eq_none k] at g
      have step := wpOp_putIf hoj (hfr j oj hoj e hun hno) (fun cs b => sel i oi cs b hi) (fun cs b => sel j oj cs b hoj) hQ hy (H.2 j (ready_mono hj e))
      refine wpOp_mono (fun a' w' g => ?_) step
      have hS' : S w' := g.2.1.resolve_left hjz
      refine ⟨.inr hS', ih _ a' w' (fun k ok hk hki hu hn => ?_) (ready_mono hr (Ne.symm e)) g.1 hS' ?_⟩
      . refine hfr k ok hk hki ?_ hn
        rcases Decidable.em (j = k) with q | q
        . subst q; exact hun
        . rwa [getD_set_ne true q] at hu
      . have := g.2.2
        rwa [Array.setIfInBounds_comm _ _ (Ne.symm e)] at this
theorem Qe8 {i : Nat} {oi : Oper} {v : Value} {n : Nat} {L : Array Bool} {a : Act} {w : World} (hz : Qbu md ops z = true) (hi : ops[i]? = some oi) (hs : Region.noSelect ops = true) (hiz : i ≠ z)
 (hf : Region.free md ops L i = true) (hr : (Region.ready md ops L).contains i = true) (hQ : ∀ c a w, Q (.panic c) (a.put oi.dst v) w -> Q (.panic c) a w) (hy : YieldsIf P ops S oi v a) (hS : S w)
 (h : Qb9 P md ops Q S z n (L.setIfInBounds i true) (a.put oi.dst v) w) : Qb9 P md ops Q S z (n + 1) L a w :=
 upTo_take hz hi hs hQ hiz n L a w hf (by simpa using hr) hy hS h
end
end Go.Proofs.YtkmkldjipihceaaGreat.Gen
namespace Go.Proofs.YtkmkldjipihceaaGreat
open Gen
theorem zG {α : Type} : (∀ (l : List α) (i : Nat) (h : i < l.toArray.size), l.toArray[i] = l[i]'(by simpa using h)) /\ (∀ (a : α) (l : List α) (i : Nat) (h : i + 1 < (a :: l).length), (a :: l)[i + 1] = l[i]'(by simpa using h)) /\ (∀ (a : α) (l : List α) (h : 0 < (a :: l).length), (a :: l)[0] = a) := ⟨fun _ _ _ => rfl, fun _ _ _ _ => rfl, fun _ _ _ => rfl⟩
theorem zY {α : Type} : (∀ (l : List α) (i : Nat) (h : i < l.toArray.size), l.toArray[i] = l[i]'(by simpa using h)) /\ (∀ (a : α) (l : List α) (i : Nat) (h : i + 1 < (a :: l).length), (a :: l)[i + 1] = l[i]'(by simpa using h)) /\ (∀ (a : α) (l : List α) (h : 0 < (a :: l).length), (a :: l)[0] = a) /\ (∀ (l : List α) (i : Nat) (v : α), l.toArray.setIfInBounds i v = (l.set i v).toArray) /\ (∀ (a v : α) (l : List α), (a :: l).set 0 v = v :: l) /\ (∀ (a v : α) (l : List α) (i : Nat), (a :: l).set (i + 1) v = a :: l.set i v) := ⟨fun _ _ _ => rfl, fun _ _ _ _ => rfl, fun _ _ _ => rfl, fun _ _ _ => by simp, fun _ _ _ => rfl, fun _ _ _ _ => rfl⟩
theorem zX : (∀ (a : Act) (v : Value), a.put none v = a) /\ (∀ (a : Act) (t : Tmp) (v : Value), a.put (some t) v = { a with tmps := a.tmps.setIfInBounds t v }) := ⟨fun _ _ => rfl, fun _ _ _ => rfl⟩
section
variable {P : Program} {md : Region.Mode} {ops : Array Oper} {Q : Go.Exit -> Act -> World -> Prop} {S : World -> Prop} {fuel : Nat} {listed : Array Bool} {a : Act} {w : World}
def ZTk (_ : List Nat) (P : Program) (md : Region.Mode) (ops : Array Oper) (Q : Go.Exit -> Act -> World -> Prop) (S : World -> Prop) (fuel : Nat) (listed : Array Bool) (a : Act) (w : World) : Prop := wpAnyH P md ops Q S fuel listed a w
theorem ztk (is : List Nat) (h : ZTk is P md ops Q S fuel listed a w) : wpAnyH P md ops Q S fuel listed a w := h
theorem zt1 (i : Nat) (h : ZTk [i] P md ops Q S fuel listed a w) : wpAnyH P md ops Q S fuel listed a w := h
theorem zte (h : wpAnyH P md ops Q S fuel listed a w) : ZTk [] P md ops Q S fuel listed a w := h
theorem ztn {i : Nat} {is : List Nat} {oi : Oper} {v : Value} (hi : ops[i]? = some oi := by rfl) (hw : Region.wanted oi (yielded ops a.tmps) = true := by rfl) (hy : ∀ w, S w -> (execOp a.eval oi).run P w = .ok (.value v) w := by (intro w hSw; (try dsimp only at hSw); go_simp<;>with_reducible rfl)) (hS : S w := by assumption) (hs : Region.noSelect ops = true := by kernel_rfl) (hf : Region.free md ops listed i = true := by kernel_rfl) (hr : (Region.ready md ops listed).contains i = true := by kernel_rfl)
 (hQ : ∀ c a w, Q (.panic c) (a.put oi.dst v) w -> Q (.panic c) a w := by exact fun _ _ _ h => h) (h : ZTk is P md ops Q S fuel (listed.setIfInBounds i true) (a.put oi.dst v) w) : ZTk (i :: is) P md ops Q S (fuel + 1) listed a w := wpAnyH_take hi hs hf hr hQ (.inl ⟨hw, hy⟩) hS h
theorem ztu {i : Nat} {is : List Nat} {oi : Oper} (hi : ops[i]? = some oi := by rfl) (hw : Region.wanted oi (yielded ops a.tmps) = false := by rfl) (hS : S w := by assumption) (hs : Region.noSelect ops = true := by kernel_rfl) (hf : Region.free md ops listed i = true := by kernel_rfl) (hr : (Region.ready md ops listed).contains i = true := by kernel_rfl)
 (hQ : ∀ c a w, Q (.panic c) (a.put oi.dst undef) w -> Q (.panic c) a w := by exact fun _ _ _ h => h) (h : ZTk is P md ops Q S fuel (listed.setIfInBounds i true) (a.put oi.dst undef) w) : ZTk (i :: is) P md ops Q S (fuel + 1) listed a w := wpAnyH_take hi hs hf hr hQ (.inr ⟨hw, rfl⟩) hS h
theorem zR1 (i : Nat) {o : Oper} (h : ∀ K' : Act -> World -> Prop, Shut (∀ a w, S w -> (S w -> wpAnyH P md ops Q S fuel (listed.setIfInBounds i true) a w) -> K' a w) -> if Region.wanted o (yielded ops a.tmps) = true then Oper.wp P o a w K' Q else K' (a.put o.dst undef) w) (ho : ops[i]? = some o := by rfl) (hr : Region.ready md ops listed = [i] := by kernel_rfl) : wpAnyH P md ops Q S (fuel + 1) listed a w := wpAnyH_ready hr (by simp) (.cons ho h .nil)
theorem zR2 (i j : Nat) {o o2 : Oper} (h : ∀ K' : Act -> World -> Prop, Shut (∀ a w, S w -> (S w -> wpAnyH P md ops Q S fuel (listed.setIfInBounds i true) a w) -> K' a w) -> if Region.wanted o (yielded ops a.tmps) = true then Oper.wp P o a w K' Q else K' (a.put o.dst undef) w) (h2 : ∀ K' : Act -> World -> Prop, Shut (∀ a w, S w -> (S w -> wpAnyH P md ops Q S fuel (listed.setIfInBounds j true) a w) -> K' a w) -> if Region.wanted o2 (yielded ops a.tmps) = true then Oper.wp P o2 a w K' Q else K' (a.put o2.dst undef) w)
 (ho : ops[i]? = some o := by rfl) (ho2 : ops[j]? = some o2 := by rfl) (hr : Region.ready md ops listed = [i, j] := by kernel_rfl) : wpAnyH P md ops Q S (fuel + 1) listed a w := wpAnyH_ready hr (by simp) (.cons ho h (.cons ho2 h2 .nil))
theorem zR3 (i j k : Nat) {o o2 o3 : Oper} (h : ∀ K' : Act -> World -> Prop, Shut (∀ a w, S w -> (S w -> wpAnyH P md ops Q S fuel (listed.setIfInBounds i true) a w) -> K' a w) -> if Region.wanted o (yielded ops a.tmps) = true then Oper.wp P o a w K' Q else K' (a.put o.dst undef) w) (h2 : ∀ K' : Act -> World -> Prop, Shut (∀ a w, S w -> (S w -> wpAnyH P md ops Q S fuel (listed.setIfInBounds j true) a w) -> K' a w) -> if Region.wanted o2 (yielded ops a.tmps) = true then Oper.wp P o2 a w K' Q else K' (a.put o2.dst undef) w)
 (h3 : ∀ K' : Act -> World -> Prop, Shut (∀ a w, S w -> (S w -> wpAnyH P md ops Q S fuel (listed.setIfInBounds k true) a w) -> K' a w) -> if Region.wanted o3 (yielded ops a.tmps) = true then Oper.wp P o3 a w K' Q else K' (a.put o3.dst undef) w)
 (ho : ops[i]? = some o := by rfl) (ho2 : ops[j]? = some o2 := by rfl) (ho3 : ops[k]? = some o3 := by rfl) (hr : Region.ready md ops listed = [i, j, k] := by kernel_rfl) : wpAnyH P md ops Q S (fuel + 1) listed a w := wpAnyH_ready hr (by simp) (.cons ho h (.cons ho2 h2 (.cons ho3 h3 .nil)))
theorem zdn (h : Q .normal a w) (hr : Region.ready md ops listed = [] := by kernel_rfl) : wpAnyH P md ops (NoPanic Q) S fuel listed a w := wpAnyH_done hr (NoPanic.normal h) _
end
section
variable {P : Program} {md : Region.Mode} {ops : Array Oper} {Q : Go.Exit -> Act -> World -> Prop} {S : World -> Prop} {z fuel : Nat} {listed : Array Bool} {a : Act} {w : World}
def ZPk (_ : List Nat) (P : Program) (md : Region.Mode) (ops : Array Oper) (Q : Go.Exit -> Act -> World -> Prop) (S : World -> Prop) (z fuel : Nat) (listed : Array Bool) (a : Act) (w : World) : Prop := Qb9 P md ops Q S z fuel listed a w
theorem zpk (is : List Nat) (h : ZPk is P md ops Q S z fuel listed a w) : Qb9 P md ops Q S z fuel listed a w := h
theorem zp1 (i : Nat) (h : ZPk [i] P md ops Q S z fuel listed a w) : Qb9 P md ops Q S z fuel listed a w := h
theorem zpe (h : Qb9 P md ops Q S z fuel listed a w) : ZPk [] P md ops Q S z fuel listed a w := h
theorem zpn {i : Nat} {is : List Nat} {oi : Oper} {v : Value} (hi : ops[i]? = some oi := by rfl) (hw : Region.wanted oi (yielded ops a.tmps) = true := by rfl) (hy : ∀ w, S w -> (execOp a.eval oi).run P w = .ok (.value v) w := by (intro w hSw; (try dsimp only at hSw); go_simp<;>with_reducible rfl)) (hS : S w := by assumption) (hz : Qbu md ops z = true := by kernel_rfl) (hs : Region.noSelect ops = true := by kernel_rfl) (hiz : i ≠ z := by decide) (hf : Region.free md ops listed i = true := by kernel_rfl) (hr : (Region.ready md ops listed).contains i = true := by kernel_rfl)
 (hQ : ∀ c a w, Q (.panic c) (a.put oi.dst v) w -> Q (.panic c) a w := by exact fun _ _ _ h => h) (h : ZPk is P md ops Q S z fuel (listed.setIfInBounds i true) (a.put oi.dst v) w) : ZPk (i :: is) P md ops Q S z (fuel + 1) listed a w := Qe8 hz hi hs hiz hf hr hQ (.inl ⟨hw, hy⟩) hS h
theorem zpu {i : Nat} {is : List Nat} {oi : Oper} (hi : ops[i]? = some oi := by rfl) (hw : Region.wanted oi (yielded ops a.tmps) = false := by rfl) (hS : S w := by assumption) (hz : Qbu md ops z = true := by kernel_rfl) (hs : Region.noSelect ops = true := by kernel_rfl) (hiz : i ≠ z := by decide) (hf : Region.free md ops listed i = true := by kernel_rfl) (hr : (Region.ready md ops listed).contains i = true := by kernel_rfl)
 (hQ : ∀ c a w, Q (.panic c) (a.put oi.dst undef) w -> Q (.panic c) a w := by exact fun _ _ _ h => h) (h : ZPk is P md ops Q S z fuel (listed.setIfInBounds i true) (a.put oi.dst undef) w) : ZPk (i :: is) P md ops Q S z (fuel + 1) listed a w := Qe8 hz hi hs hiz hf hr hQ (.inr ⟨hw, rfl⟩) hS h
end
end Go.Proofs.YtkmkldjipihceaaGreat
namespace Go.Proofs.YtkmkldjipihceaaGreat.Items
open ChangeShapes WideShapes ChangeAt RowKit Base
theorem toItem_any (off who time : Int) (k t : ByteArray) (w : World) :
 Calls Tryz.prog 176 #[.agg (Qbf off k t who time)] w fun e w' => e = .returned (.agg (Qbf off k t who time)) /\ Below w.heap.size w w' := by
 go_enter Tryz.func176, Tryz.ntmps176
 go_wp2
 exact bodyPost_ret (v := .agg (Qbf off k t who time)) (by simp [results, Tryz.results176, go_sem]) rfl ⟨rfl, by repeat (first | exact Below.refl _ _ | refine via0 (by assumption) ?_ | refine Below.drew ?_ | refine Qab ?_ _)⟩
def zeroItem : Value := .agg l0ITTII
def zeros (n : Nat) : Array Value := madeCells zeroItem.cells (n * 5)
theorem infoItem : (Tryz.prog.info? 225).map (fun i => (i.zero, i.size, i.bytes)) = some (some zeroItem, 5, 56) := by kernel_rfl
theorem make_items (n : Nat) (hn : n <= 1048576) (w : World) :
 (Instr.makeSlice 181 (.int .i64 (n : Int)) (.int .i64 (n : Int))).run Tryz.prog w = .ok (.slice (some ⟨w.heap.size, 0, none⟩) n n) (w.alloc (.cells (zeros n) 225)) := by
 have h := infoItem
 cases hi : Tryz.prog.info? 225 with
 | none => rw [hi] at h; simp at h
 | some i =>
  rw [hi] at h
  simp only [Option.map_some, Option.some.injEq, Prod.mk.injEq] at h
  obtain ⟨hz, hs, hb⟩ := h
  have r := run_make (P := Tryz.prog) w 181 225 i zeroItem Tryz.underlying181 hi hz .i64 .i64 n n (by omega) (Int.le_refl _) (by rw [hb]; omega) (by omega)
  rw [r, hs]
  simp [zeros]
theorem zeros_size (n : Nat) : (zeros n).size = n * 5 := size_madeCells _ _
theorem Qbw {w : World} {b o : Nat} {xs ys : List Value} (h1 : w.rangeAt b o xs) (h2 : w.rangeAt b (o + xs.length) ys) : w.rangeAt b o (xs ++ ys) := fun j v hv => by
 by_cases hj : j < xs.length
 . exact h1 j v (by rwa [List.getElem?_append_left hj] at hv)
 . rw [List.getElem?_append_right (by omega)] at hv
   have := h2 (j - xs.length) v hv
   have e : o + xs.length + (j - xs.length) = o + j := by omega
   rwa [e] at this
theorem Qaz {w w' : World} {b o n : Nat} (h : w.there b o n) (hb : b < w.heap.size) (hw : Below w.heap.size w w') : w'.there b o n := fun j hj => by
 rw [hw.cell (p := ⟨b, o + j, none⟩) hb, hw.frozen (p := ⟨b, o + j, none⟩) hb]
 exact h j hj
theorem store_item {w : World} {b : Nat} {l : List It} {n : Nat} (hin : In w b 0 (l.take n)) (hth : w.there b 0 (l.length * 5)) (hn : n < l.length) :
 In (w.setCells b (n * 5) l[n].cs) b 0 (l.take (n + 1)) /\ (w.setCells b (n * 5) l[n].cs).there b 0 (l.length * 5) := by
 have hlen : (flat (l.take n)).length = n * 5 := by rw [Qb8, List.length_take]; omega
 refine ⟨?_, World.there_setCells hth _ _ _⟩
 unfold In
 rw [List.take_succ_eq_append_getElem hn, Qco, Qd5]
 refine Qbw (World.rangeAt_setCells_apart hin _ _ _ (.inr (.inl (by rw [hlen]; omega)))) ?_
 rw [hlen, Nat.zero_add]
 refine World.rangeAt_setCells_same _ _ _ _ fun j hj => ?_
 have hj' : j < 5 := hj
 have := hth (n * 5 + j) (by omega)
 rwa [Nat.zero_add] at this
theorem Qa0 (w : World) (n : Nat) : (w.alloc (.cells (zeros n) 225)).there w.heap.size 0 (n * 5) := fun j hj => by
 have : j < (zeros n).size := by rw [zeros_size]; exact hj
 simp [this]
theorem Qhp (A : Option Addr) (cap : Nat) (l : List It) (hl : l.length <= 1048576) (w : World)
 (hA : l = [] ∨ ∃ b o, A = some ⟨b, o, none⟩ /\ b < w.heap.size /\ In w b o l) :
 Calls Tryz.prog 156 #[.slice A l.length cap] w fun e w' => e = .returned (.slice (some ⟨w.heap.size, 0, none⟩) l.length l.length) /\ Below w.heap.size w w' /\ w.heap.size < w'.heap.size /\ In w' w.heap.size 0 l /\ w'.there w.heap.size 0 (l.length * 5) := by
 have HA : Hid (l = [] ∨ ∃ b o, A = some ⟨b, o, none⟩ /\ b < w.heap.size /\ In w b o l) := hA
 clear hA
 have hmk := make_items l.length hl
 go_enter Tryz.func156, Tryz.ntmps156
 go_wp2
 go_loopw [4] (fun i w' => ∃ (n : Nat), i = .int .i64 (n : Int) /\ n <= l.length /\ Below w.heap.size w w' /\ w.heap.size < w'.heap.size /\ Hid (In w' w.heap.size 0 (l.take n)) /\ Hid (w'.there w.heap.size 0 (l.length * 5))) (fun i _ => l.length - (intOf i).toNat)
 case atStart => exact ⟨0, rfl, by omega, by repeat (first | exact Below.refl _ _ | refine via0 (by assumption) ?_ | refine Below.drew ?_ | refine Qab ?_ _), by simp, fun j v hv => by simp [flat] at hv, Qa0 w _⟩
 case round =>
  obtain ⟨n, rfl, hn, hbl, hsz, hin, hth⟩ := hrel
  by_cases hlt : n < l.length
  . obtain ⟨b, o, rfl, hbs, hIn⟩ : ∃ b o, A = some ⟨b, o, none⟩ /\ b < w.heap.size /\ In w b o l := by
     rcases HA.out with h | h
     . subst h; simp at hlt
     . exact h
    obtain ⟨hc0, hc1, hc2, hc3, hc4⟩ := (hIn.below hbs hbl).get n hlt
    have hT : ∀ f, f < 5 -> (∃ v, wr.cell? ⟨w.heap.size, n * 5 + f, none⟩ = some v) /\ wr.frozen? ⟨w.heap.size, n * 5 + f, none⟩ = false := fun f hf => by
     have := hth.out (n * 5 + f) (by omega)
     rw [Nat.zero_add] at this
     exact ⟨Option.isSome_iff_exists.1 this.1, this.2⟩
    obtain ⟨⟨v0, d0⟩, f0⟩ := hT 0 (by omega)
    rw [Nat.add_zero] at d0 f0
    obtain ⟨⟨v1, d1⟩, f1⟩ := hT 1 (by omega)
    obtain ⟨⟨v2, d2⟩, f2⟩ := hT 2 (by omega)
    obtain ⟨⟨v3, d3⟩, f3⟩ := hT 3 (by omega)
    obtain ⟨⟨v4, d4⟩, f4⟩ := hT 4 (by omega)
    clear hT
    go_wp2_with (go_at_call 176; refine (toItem_any _ _ _ _ _ _).mono ?_; rintro e w1 ⟨rfl, g1⟩; obtain ⟨k1, m1⟩ := Qax g1; have s1 := g1.size)
    have hst := store_item (hin.out.below hsz g1) (Qaz hth.out hsz g1) hlt
    refine ⟨⟨n + 1, by go_num, by omega, ?_, by simp; omega, hst.1, hst.2⟩, by simp [intOf]; omega⟩
    exact (((((via0 g1 hbl).setCell (Nat.le_refl _) _).setCell (Nat.le_refl _) _).setCell (Nat.le_refl _) _).setCell (Nat.le_refl _) _).setCell (Nat.le_refl _) _
  . have e : l.take n = l := List.take_of_length_le (by omega)
    go_wp2
    go_ret
    exact ⟨rfl, hbl, hsz, by have := hin.out; rwa [e] at this, hth.out⟩
theorem In.set {w : World} {b o : Nat} {l : List It} (h : In w b o l) (p : Addr) (v : Value) (hp : p.block ≠ b) : In (w.setCell p v) b o l := fun j u hu => by
 rw [World.cell?_setCell_other (h := fun e => hp (by rw [e]))]; exact h j u hu
theorem Qaj {w : World} {b o n : Nat} (h : w.there b o n) (b' o' : Nat) (v : Value) : (w.setCell ⟨b', o', none⟩ v).there b o n := World.there_setCells h b' o' [v]
theorem toRow_any (start next : Int) (A : Option Addr) (cap : Nat) (l : List It) (hl : l.length <= 1048576) (w : World)
 (hA : l = [] ∨ ∃ b o, A = some ⟨b, o, none⟩ /\ b < w.heap.size /\ In w b o l) :
 Calls Tryz.prog 142 #[.agg (Qap start next A l.length cap)] w
  fun e w' => ∃ b, e = .returned (.agg (Qap start next (some ⟨b, 0, none⟩) l.length l.length)) /\ Below w.heap.size w w' /\ w.heap.size <= b /\ b < w'.heap.size /\ In w' b 0 l /\ w'.there b 0 (l.length * 5) := by
 have hA' : ∀ W : World, Below w.heap.size w W -> l = [] ∨ ∃ b o, A = some ⟨b, o, none⟩ /\ b < W.heap.size /\ In W b o l := fun W hW => by
  rcases hA with h | ⟨b, o, h1, h2, h3⟩
  . exact .inl h
  . exact .inr ⟨b, o, h1, Nat.lt_of_lt_of_le h2 hW.size, h3.below h2 hW⟩
 have HA : Hid (∀ W : World, Below w.heap.size w W -> l = [] ∨ ∃ b o, A = some ⟨b, o, none⟩ /\ b < W.heap.size /\ In W b o l) := hA'
 clear hA hA'
 go_enter Tryz.func142, Tryz.ntmps142
 go_wp2_with (go_at_call 156; refine (Qhp A cap l hl _ (HA.out _ ?_)).mono ?_; (repeat (first | exact Below.refl _ _ | refine via0 (by assumption) ?_ | refine Below.drew ?_ | refine Qab ?_ _)); rintro e w1 ⟨rfl, g1, s1, i1, t1⟩; obtain ⟨k1, m1⟩ := Qax g1)
 have i2 : In w1 (w.heap.size + 1 + 1 + 1) 0 l := by simpa using i1
 have t2 : w1.there (w.heap.size + 1 + 1 + 1) 0 (l.length * 5) := by simpa using t1
 have s2 : w.heap.size + 1 + 1 + 1 < w1.heap.size := by simpa using s1
 have g2 : Below w.heap.size w w1 := via0 g1 (by repeat (first | exact Below.refl _ _ | refine via0 (by assumption) ?_ | refine Below.drew ?_ | refine Qab ?_ _))
 refine bodyPost_ret (v := .agg (Qap start next (some ⟨w.heap.size + 1 + 1 + 1, 0, none⟩) l.length l.length)) (by simp [results, Tryz.results142, go_sem, k1]) rfl ⟨w.heap.size + 1 + 1 + 1, rfl, ?_, by omega, by simp; omega, ?_, ?_⟩
 . exact ((((g2.setCell (by show _ <= w.heap.size + 1 + 1; omega) _).setCell (by show _ <= w.heap.size + 1; omega) _).setCell (by show _ <= w.heap.size + 1; omega) _).setCell (by show _ <= w.heap.size + 1; omega) _)
 . exact (((i2.set _ _ (by simp)).set _ _ (by simp)).set _ _ (by simp)).set _ _ (by simp)
 . exact Qaj (Qaj (Qaj (Qaj t2 _ _ _) _ _ _) _ _ _) _ _ _
structure Only (b : Nat) (w w' : World) : Prop where
  os : w'.os = w.os
  tape : w'.tape = w.tape
  output : w'.output = w.output
  size : w.heap.size <= w'.heap.size
  block : ∀ k, k < w.heap.size -> k ≠ b -> w'.heap[k]? = w.heap[k]?
theorem Only.refl (b : Nat) (w : World) : Only b w w := ⟨rfl, rfl, rfl, Nat.le_refl _, fun _ _ _ => rfl⟩
theorem Only.set {b : Nat} {w w1 : World} (h : Only b w w1) (o : Nat) (v : Value) : Only b w (w1.setCell ⟨b, o, none⟩ v) :=
 ⟨h.os, h.tape, h.output, by simpa using h.size, fun i hi hb => (Below.heap_setCell w1 ⟨b, o, none⟩ v i hb).trans (h.block i hi hb)⟩
def markI (z : Int) : It := ⟨z, markZ (z + 1), markZ (z + 2), z + 3, z + 4⟩
def marks (n : Nat) (z : Int) : List It := (List.range n).map fun (i : Nat) => markI (z + (i : Int) * 5)
theorem Qdh {w w' : World} {b o : Nat} {cs : List Value} (h : w.rangeAt b o cs) (hb : b < w.heap.size) (hw : Below w.heap.size w w') : w'.rangeAt b o cs :=
 fun j v hv => (hw.cell (p := ⟨b, o + j, none⟩) hb).trans (h j v hv)
theorem call {w w' : World} {b o m : Nat} {cs : List Value} (h : w.rangeAt b o cs /\ w.there b o m /\ b < w.heap.size) (k : Below w.heap.size w w') : w'.rangeAt b o cs /\ w'.there b o m /\ b < w'.heap.size :=
 ⟨Qdh h.1 h.2.2 k, Qaz h.2.1 h.2.2 k, Nat.lt_of_lt_of_le h.2.2 k.size⟩
end Go.Proofs.YtkmkldjipihceaaGreat.Items
