/-
  Lists of entries: what the laws' mark and held functions do. No condition but that there are at most 1048576.
-/
import Derived.Test.YtmdaammalacifaaGreatEnt
set_option linter.unusedVariables false
set_option linter.unusedSimpArgs false
set_option maxRecDepth 100000
set_option maxHeartbeats 8000000
namespace Go.Proofs.YtmdaammalacifaaGreat.Gen
open ChangeShapes WideShapes ChangeAt RowKit Joins Deep Base
def markEn (z : Int) : En := ⟨z, z + 1, z + 2, z + 3, z + 4, z + 5, z + 6, Items.markZ (z + 7), Items.markZ (z + 8)⟩
def Qat (n : Nat) (z : Int) : List En := (List.range n).map fun (i : Nat) => markEn (z + (i : Int) * 9)
theorem Qa7 (n : Nat) (z : Int) : (Qat n z).length = n := by simp [Qat]
theorem Qfq (n : Nat) (z : Int) : Qat (n + 1) z = Qat n z ++ [markEn (z + (n : Int) * 9)] := by simp [Qat, List.range_succ]
theorem Qgt (n : Nat) (z : Int) (i : Nat) (h : i < (Qat n z).length) : (Qat n z)[i] = markEn (z + (i : Int) * 9) := by simp [Qat]
theorem Qfr (n : Nat) (k z : Int) (hz : z = k + (n : Int) * 9) :
 flat (Qat n k) ++ [.int .i64 z] ++ [.int .i64 (z + 1)] ++ [.int .i64 (z + 1 + 1)] ++ [.int .i64 (z + 1 + 1 + 1)] ++ [.int .i64 (z + 1 + 1 + 1 + 1)] ++ [.int .i64 (z + 1 + 1 + 1 + 1 + 1)] ++ [.int .i64 (z + 1 + 1 + 1 + 1 + 1 + 1)] ++ [.string (Items.markZ (z + 1 + 1 + 1 + 1 + 1 + 1 + 1))] ++ [.string (Items.markZ (z + 1 + 1 + 1 + 1 + 1 + 1 + 1 + 1))] = flat (Qat (n + 1) k) := by
 subst hz
 have e2 : ∀ z : Int, z + 1 + 1 = z + 2 := fun z => by omega
 have e3 : ∀ z : Int, z + 1 + 1 + 1 = z + 3 := fun z => by omega
 have e4 : ∀ z : Int, z + 1 + 1 + 1 + 1 = z + 4 := fun z => by omega
 have e5 : ∀ z : Int, z + 1 + 1 + 1 + 1 + 1 = z + 5 := fun z => by omega
 have e6 : ∀ z : Int, z + 1 + 1 + 1 + 1 + 1 + 1 = z + 6 := fun z => by omega
 have e7 : ∀ z : Int, z + 1 + 1 + 1 + 1 + 1 + 1 + 1 = z + 7 := fun z => by omega
 have e8 : ∀ z : Int, z + 1 + 1 + 1 + 1 + 1 + 1 + 1 + 1 = z + 8 := fun z => by omega
 rw [Qfq, Qa2, Qbe, e8, e7, e6, e5, e4, e3, e2]
 simp [Cel.cs, markEn]
theorem Qcz (b o cap m : Nat) (k : Int) (hk : 1 <= k) (hk' : k <= 100000000) (hm : m <= 3000000) (w : World) (hb : b < w.heap.size) (hth : w.there b o (m * 9)) :
 Calls Tryz.prog 48 #[.slice (some ⟨b, o, none⟩) m cap, .int .i64 k] w fun e w' => e = .returned (.int .i64 (k + (m : Int) * 9)) /\ Only b w w' /\ In w' b o (Qat m k) /\ w'.there b o (m * 9) := by
 have HT := hidP hth
 clear hth
 go_enter Tryz.func48, Tryz.ntmps48
 go_wp2
 go_loopw [1, 5] (fun kk i w' => ∃ (n : Nat) (z : Int), i = .int .i64 (n : Int) /\ kk = .int .i64 z /\ n <= m /\ 1 <= z /\ z <= 900000000 /\ Only b w w' /\ Hid (z = k + (n : Int) * 9) /\ Hid (In w' b o (Qat n k)) /\ Hid (w'.there b o (m * 9))) (fun _ i _ => m - (intOf i).toNat)
 case atStart => exact ⟨0, k, rfl, rfl, by omega, hk, by omega, Only.refl _ _, by simp [Hid], In.nil _ _ _, HT.out⟩
 case round =>
  obtain ⟨n, z, rfl, rfl, hn, hz1, hz2, ho, hz, hin, hth⟩ := hrel
  by_cases hlt : n < m
  . obtain ⟨⟨v0, d0⟩, f0⟩ := Qad (f := 0) hth.out hlt (by omega)
    rw [Nat.add_zero] at d0 f0
    obtain ⟨⟨v1, d1⟩, f1⟩ := Qad (f := 1) hth.out hlt (by omega)
    obtain ⟨⟨v2, d2⟩, f2⟩ := Qad (f := 2) hth.out hlt (by omega)
    obtain ⟨⟨v3, d3⟩, f3⟩ := Qad (f := 3) hth.out hlt (by omega)
    obtain ⟨⟨v4, d4⟩, f4⟩ := Qad (f := 4) hth.out hlt (by omega)
    obtain ⟨⟨v5, d5⟩, f5⟩ := Qad (f := 5) hth.out hlt (by omega)
    obtain ⟨⟨v6, d6⟩, f6⟩ := Qad (f := 6) hth.out hlt (by omega)
    obtain ⟨⟨v7, d7⟩, f7⟩ := Qad (f := 7) hth.out hlt (by omega)
    obtain ⟨⟨v8, d8⟩, f8⟩ := Qad (f := 8) hth.out hlt (by omega)
    have q1 : b < wr.heap.size := Nat.lt_of_lt_of_le hb ho.size
    go_wp2_with fail
    refine (Items.markText_at _ (by omega) (by omega) _).mono ?_
    rintro e w1 ⟨rfl, g1⟩
    obtain ⟨k1, m1⟩ := Qbf g1
    have q2 : b < w1.heap.size := (by have t1 := g1.size; simp at t1; exact Nat.lt_of_lt_of_le q1 t1)
    go_wp2_with fail
    refine (Items.markText_at _ (by omega) (by omega) _).mono ?_
    rintro e w2 ⟨rfl, g2⟩
    obtain ⟨k2, m2⟩ := Qbf g2
    have q3 : b < w2.heap.size := (by have t1 := g2.size; simp at t1; exact Nat.lt_of_lt_of_le q2 t1)
    go_wp2
    have hlen : (flat (Qat n k)).length = n * 9 := by rw [Qaw, Qa7]; rfl
    have P0 := push (v := .int .i64 z) (q := o + n * 9) ⟨hin.out, hth.out, Nat.lt_of_lt_of_le hb ho.size⟩ (by rw [hlen]; omega) (by rw [hlen])
    have P1 := push (v := .int .i64 (z + 1)) (q := o + n * 9 + 1) P0 (by simp [hlen]; omega) (by simp [hlen]; omega)
    have P2 := push (v := .int .i64 (z + 1 + 1)) (q := o + n * 9 + 1 + 1) P1 (by simp [hlen]; omega) (by simp [hlen]; omega)
    have P3 := push (v := .int .i64 (z + 1 + 1 + 1)) (q := o + n * 9 + 1 + 2) P2 (by simp [hlen]; omega) (by simp [hlen]; omega)
    have P4 := push (v := .int .i64 (z + 1 + 1 + 1 + 1)) (q := o + n * 9 + 1 + 3) P3 (by simp [hlen]; omega) (by simp [hlen]; omega)
    have P5 := push (v := .int .i64 (z + 1 + 1 + 1 + 1 + 1)) (q := o + n * 9 + 1 + 4) P4 (by simp [hlen]; omega) (by simp [hlen]; omega)
    have P6 := push (v := .int .i64 (z + 1 + 1 + 1 + 1 + 1 + 1)) (q := o + n * 9 + 1 + 5) P5 (by simp [hlen]; omega) (by simp [hlen]; omega)
    have P7 := push (v := .string (Items.markZ (z + 1 + 1 + 1 + 1 + 1 + 1 + 1))) (q := o + n * 9 + 1 + 6) (Qdq P6 g1) (by simp [hlen]; omega) (by simp [hlen]; omega)
    have P8 := push (v := .string (Items.markZ (z + 1 + 1 + 1 + 1 + 1 + 1 + 1 + 1))) (q := o + n * 9 + 1 + 7) (Qdq P7 g2) (by simp [hlen]; omega) (by simp [hlen]; omega)
    rw [Qfr n k z hz.out] at P8
    have hz' := hz.out
    refine ⟨⟨n + 1, z + 1 + 1 + 1 + 1 + 1 + 1 + 1 + 1 + 1, by go_num, rfl, by omega, by omega, by omega, ?_, by show z + 1 + 1 + 1 + 1 + 1 + 1 + 1 + 1 + 1 = _; omega, P8.1, P8.2.1⟩, by simp [intOf]; omega⟩
    exact ((((((((((ho.set _ _).set _ _).set _ _).set _ _).set _ _).set _ _).set _ _).below g1).set _ _).below g2).set _ _
  . obtain rfl : n = m := by omega
    go_wp2
    go_ret
    have e := hz.out
    subst e
    exact ⟨rfl, ho, hin.out, hth.out⟩
theorem Qc1 (A : Option Addr) (cap m : Nat) (k : Int) (hk : 1 <= k) (hk' : k <= 100000000) (hm : m <= 3000000) (w : World)
 (hA : m = 0 ∨ ∃ b o, A = some ⟨b, o, none⟩ /\ b < w.heap.size /\ In w b o (Qat m k)) :
 Calls Tryz.prog 100 #[.slice A m cap, .int .i64 k] w fun e w' => e = .returned (.int .i64 (k + (m : Int) * 9)) /\ Below w.heap.size w w' := by
 have HA := hidP hA
 clear hA
 go_enter Tryz.func100, Tryz.ntmps100
 go_wp2
 go_loopw [1, 5] (fun kk i w' => ∃ (n : Nat) (z : Int), i = .int .i64 (n : Int) /\ kk = .int .i64 z /\ n <= m /\ 1 <= z /\ z <= 900000000 /\ Hid (z = k + (n : Int) * 9) /\ Below w.heap.size w w') (fun _ i _ => m - (intOf i).toNat)
 case atStart => exact ⟨0, k, rfl, rfl, by omega, hk, by omega, by simp [Hid], Below.refl _ _⟩
 case round =>
  obtain ⟨n, z, rfl, rfl, hn, hz1, hz2, hz, hbl⟩ := hrel
  by_cases hlt : n < m
  . obtain ⟨b, o, rfl, hbs, hin⟩ : ∃ b o, A = some ⟨b, o, none⟩ /\ b < w.heap.size /\ In w b o (Qat m k) := by
     rcases HA.out with h | h
     . omega
     . exact h
    have hb1 : b < wr.heap.size := Nat.lt_of_lt_of_le hbs hbl.size
    obtain ⟨c0, c1, c2, c3, c4, c5, c6, c7, c8⟩ : wr.cell? ⟨b, o + n * 9, none⟩ = some (.int .i64 z) /\ wr.cell? ⟨b, o + n * 9 + 1, none⟩ = some (.int .i64 (z + 1)) /\ wr.cell? ⟨b, o + n * 9 + 2, none⟩ = some (.int .i64 (z + 1 + 1)) /\ wr.cell? ⟨b, o + n * 9 + 3, none⟩ = some (.int .i64 (z + 1 + 1 + 1)) /\ wr.cell? ⟨b, o + n * 9 + 4, none⟩ = some (.int .i64 (z + 1 + 1 + 1 + 1)) /\ wr.cell? ⟨b, o + n * 9 + 5, none⟩ = some (.int .i64 (z + 1 + 1 + 1 + 1 + 1)) /\ wr.cell? ⟨b, o + n * 9 + 6, none⟩ = some (.int .i64 (z + 1 + 1 + 1 + 1 + 1 + 1)) /\ wr.cell? ⟨b, o + n * 9 + 7, none⟩ = some (.string (Items.markZ (z + 1 + 1 + 1 + 1 + 1 + 1 + 1))) /\ wr.cell? ⟨b, o + n * 9 + 8, none⟩ = some (.string (Items.markZ (z + 1 + 1 + 1 + 1 + 1 + 1 + 1 + 1))) := by
     have h := (hin.below hbs hbl).getEn n (by rw [Qa7]; exact hlt)
     rw [Qgt] at h
     have e2 : z + 1 + 1 = z + 2 := by omega
     have e3 : z + 1 + 1 + 1 = z + 3 := by omega
     have e4 : z + 1 + 1 + 1 + 1 = z + 4 := by omega
     have e5 : z + 1 + 1 + 1 + 1 + 1 = z + 5 := by omega
     have e6 : z + 1 + 1 + 1 + 1 + 1 + 1 = z + 6 := by omega
     have e7 : z + 1 + 1 + 1 + 1 + 1 + 1 + 1 = z + 7 := by omega
     have e8 : z + 1 + 1 + 1 + 1 + 1 + 1 + 1 + 1 = z + 8 := by omega
     rw [e8, e7, e6, e5, e4, e3, e2, hz.out]
     exact h
    have hi0 : (0 : Int) <= (n : Int) := by omega
    have hi1 : (n : Int) < (m : Int) := by omega
    go_wp2
    go_region_held3 (fun w' => w'.cell? ⟨b, o + n * 9 + 7, none⟩ = some (.string (Items.markZ (z + 1 + 1 + 1 + 1 + 1 + 1 + 1))) /\ w'.cell? ⟨b, o + n * 9 + 8, none⟩ = some (.string (Items.markZ (z + 1 + 1 + 1 + 1 + 1 + 1 + 1 + 1))) /\ b < w'.heap.size)
     (first | (go_split_ands; refine ⟨?_, ?_, ?_⟩<;>first | assumption | exact (k1 _ _ (by assumption)).trans (by assumption) | exact Nat.lt_of_lt_of_le (by assumption) s1 | (simp; done)) | go_keep)
     (first
      | (go_at_call 93; refine (Items.markText_at _ ?_ ?_ _).mono ?_; omega; omega; rintro e w1 ⟨rfl, g1⟩; obtain ⟨k1, m1⟩ := Qbf g1; have s1 := g1.size))
    go_split_ands
    go_wp2
    go_region_held3 (fun w' => w'.cell? ⟨b, o + n * 9 + 8, none⟩ = some (.string (Items.markZ (z + 1 + 1 + 1 + 1 + 1 + 1 + 1 + 1))) /\ b < w'.heap.size)
     (first | (go_split_ands; refine ⟨?_, ?_⟩<;>first | assumption | exact (k2 _ _ (by assumption)).trans (by assumption) | exact Nat.lt_of_lt_of_le (by assumption) s2 | (simp; done)) | go_keep)
     (first
      | (go_at_call 93; refine (Items.markText_at _ ?_ ?_ _).mono ?_; omega; omega; rintro e w2 ⟨rfl, g2⟩; obtain ⟨k2, m2⟩ := Qbf g2; have s2 := g2.size))
    go_split_ands
    go_wp2
    have hz' := hz.out
    exact ⟨⟨n + 1, z + 1 + 1 + 1 + 1 + 1 + 1 + 1 + 1 + 1, by go_num, rfl, by omega, by omega, by omega, by show z + 1 + 1 + 1 + 1 + 1 + 1 + 1 + 1 + 1 = _; omega, via0 g2 (via0 g1 hbl.drew).drew⟩, by simp [intOf]; omega⟩
  . obtain rfl : n = m := by omega
    go_wp2
    go_ret
    have e := hz.out
    subst e
    exact ⟨rfl, hbl⟩
end Go.Proofs.YtmdaammalacifaaGreat.Gen
namespace Go.Proofs.YtmdaammalacifaaGreat.Gen
section
variable {P : Program} {ops : Array Oper} {Q : Exit -> Act -> World -> Prop} {md : Region.Mode} {S : World -> Prop} {z : Nat}
def Qby (md : Region.Mode) (ops : Array Oper) (z : Nat) : Bool :=
  match ops[z]? with
  | none => false
  | some o => (List.range ops.size).all fun j => j == z || o.after.any fun e => Region.binds md e && e.on == j
theorem not_last {i : Nat} {L : Array Bool} (hz : Qby md ops z = true) (hi : i ∈ Region.ready md ops L) (hne : i ≠ z) : z ∉ Region.ready md ops L := fun h => by
 obtain ⟨hu, oi, hoi, _⟩ := mem_ready.1 hi
 obtain ⟨_, oz, hoz, hall⟩ := mem_ready.1 h
 have hlt : i < ops.size := (Array.getElem?_eq_some_iff.1 hoi).1
 simp only [Qby, hoz, List.all_eq_true, List.mem_range, Bool.or_eq_true, beq_iff_eq] at hz
 have h1 := (hz i hlt).resolve_left hne
 obtain ⟨e, he, hb⟩ := Array.any_eq_true'.1 h1
 simp only [Bool.and_eq_true, beq_iff_eq] at hb
 have h2 := hall e he hb.1
 rw [hb.2] at h2
 rcases Nat.lt_or_ge i L.size with h' | h'
 . simp [h'] at hu h2
   rw [hu] at h2; cases h2
 . simp [Array.getElem?_eq_none h'] at h2
def Qbo (P : Program) (md : Region.Mode) (ops : Array Oper) (Q : Exit -> Act -> World -> Prop) (S : World -> Prop) (z : Nat) : Nat -> Array Bool -> Act -> World -> Prop
  | 0, L, a, w => Region.ready md ops L = [] /\ Q .normal a w
  | n + 1, L, a, w => (Region.ready md ops L = [] -> Q .normal a w) /\
    ∀ i ∈ Region.ready md ops L, wpOp P ops Q i (fun a' w' => (i = z ∨ S w') /\ Qbo P md ops Q S z n (L.setIfInBounds i true) a' w') a w
theorem Qhi (n : Nat) : ∀ (L : Array Bool) (a : Act) (w : World), Qbo P md ops Q S z n L a w -> wpAny P md ops Q n L a w := by
 induction n with
 | zero => exact fun _ _ _ h => h
 | succ n ih => exact fun L a w h => ⟨h.1, fun i hi => wpOp_mono (fun a' w' g => ih _ a' w' g.2) (h.2 i hi)⟩
theorem upTo_take {i : Nat} {oi : Oper} {v : Value} (hz : Qby md ops z = true) (hi : ops[i]? = some oi) (hs : Region.noSelect ops = true) (hQ : ∀ c a w, Q (.panic c) (a.put oi.dst v) w -> Q (.panic c) a w) (hiz : i ≠ z) (n : Nat) :
 ∀ (L : Array Bool) (a : Act) (w : World), Region.free md ops L i = true -> i ∈ Region.ready md ops L -> YieldsIf P ops S oi v a -> S w ->
  Qbo P md ops Q S z n (L.setIfInBounds i true) (a.put oi.dst v) w -> Qbo P md ops Q S z (n + 1) L a w := by
 have sel : ∀ (j : Nat) (o : Oper) cs b, ops[j]? = some o -> o.op ≠ .select cs b := Region.noSelect_spec hs
 suffices key : ∀ (L : Array Bool) (a : Act) (w : World), (∀ j oj, ops[j]? = some oj -> j ≠ i -> L.getD j true = false -> (∀ e ∈ oj.after, Region.binds md e = true -> e.on ≠ i) -> oi.apart ops oj = true) ->
  i ∈ Region.ready md ops L -> YieldsIf P ops S oi v a -> S w -> Qbo P md ops Q S z n (L.setIfInBounds i true) (a.put oi.dst v) w -> Qbo P md ops Q S z (n + 1) L a w from
  fun L a w hf hr hy hS H => key L a w (Region.free_spec hi hf) hr hy hS H
 induction n with
 | zero =>
  intro L a w _ hr hy hS H
  constructor
  . intro h; rw [h] at hr; exact absurd hr (List.not_mem_nil)
  . intro j hj
    rcases Decidable.em (j = i) with e | e
    . subst e; exact hy.wpOp hi hS ⟨.inr hS, H⟩
    . have g := ready_mono hj e
      rw [H.1] at g
      exact absurd g (List.not_mem_nil)
 | succ n ih =>
  intro L a w hfr hr hy hS H
  constructor
  . intro h; rw [h] at hr; exact absurd hr (List.not_mem_nil)
  . intro j hj
    rcases Decidable.em (j = i) with e | e
    . subst e; exact hy.wpOp hi hS ⟨.inr hS, H⟩
    . obtain ⟨hun, oj, hoj, hwait⟩ := mem_ready.1 hj
      have hjz : j ≠ z := fun h => by subst h; exact not_last hz hr hiz hj
      have iun := (mem_ready.1 hr).1
      have hno : ∀ d ∈ oj.after, Region.binds md d = true -> d.on ≠ i := fun d hd hb q => by
       have g := hwait d hd hb
       rw [q] at g
       rcases Nat.lt_or_ge i L.size with k | k
       . simp [k] at iun g
         rw [iun] at g; cases g
       . simp [Array.getElem?_eq_none k] at g
      have step := wpOp_putIf hoj (hfr j oj hoj e hun hno) (fun cs b => sel i oi cs b hi) (fun cs b => sel j oj cs b hoj) hQ hy (H.2 j (ready_mono hj e))
      refine wpOp_mono (fun a' w' g => ?_) step
      have hS' : S w' := g.2.1.resolve_left hjz
      refine ⟨.inr hS', ih _ a' w' (fun k ok hk hki hu hn => ?_) (ready_mono hr (Ne.symm e)) g.1 hS' ?_⟩
      . refine hfr k ok hk hki ?_ hn
        rcases Decidable.em (j = k) with q | q
        . subst q; exact hun
        . rwa [getD_set_ne true q] at hu
      . have := g.2.2
        rwa [Array.setIfInBounds_comm _ _ (Ne.symm e)] at this
theorem Qdc {i : Nat} {oi : Oper} {v : Value} {n : Nat} {L : Array Bool} {a : Act} {w : World} (hz : Qby md ops z = true) (hi : ops[i]? = some oi) (hs : Region.noSelect ops = true) (hiz : i ≠ z)
 (hf : Region.free md ops L i = true) (hr : (Region.ready md ops L).contains i = true) (hQ : ∀ c a w, Q (.panic c) (a.put oi.dst v) w -> Q (.panic c) a w) (hy : YieldsIf P ops S oi v a) (hS : S w)
 (h : Qbo P md ops Q S z n (L.setIfInBounds i true) (a.put oi.dst v) w) : Qbo P md ops Q S z (n + 1) L a w :=
 upTo_take hz hi hs hQ hiz n L a w hf (by simpa using hr) hy hS h
theorem Qai {i : Nat} {o : Oper} {n : Nat} {L : Array Bool} {a : Act} {w : World} (hr : Region.ready md ops L = [i]) (ho : ops[i]? = some o)
 (h : ∀ K' : Act -> World -> Prop, Shut (∀ a w, (i = z ∨ S w) -> Qbo P md ops Q S z n (L.setIfInBounds i true) a w -> K' a w) -> if Region.wanted o (yielded ops a.tmps) = true then Oper.wp P o a w K' Q else K' (a.put o.dst undef) w) :
 Qbo P md ops Q S z (n + 1) L a w := by
 refine ⟨fun h0 => (by rw [hr] at h0; cases h0), fun j hj => ?_⟩
 rw [hr] at hj
 obtain rfl : j = i := by simpa using hj
 exact wpOp_step ho (fun K' hK => h K' (fun a w h1 h2 => hK a w ⟨h1, h2⟩))
theorem Qbr {L : Array Bool} {a : Act} {w : World} (hr : Region.ready md ops L = []) (h : Q .normal a w) : ∀ n, Qbo P md ops Q S z n L a w
 | 0 => ⟨hr, h⟩
 | _ + 1 => ⟨fun _ => h, by rw [hr]; simp⟩
theorem Qbc {id : Nat} {a : Act} {w : World} (z : Nat) (S : World -> Prop) (hm : P.follows .mixedOrders = true) (h : Qbo P .any ops Q S z ops.size (Array.replicate ops.size false) a w.drew) : (Code.region id ops true).wp P Q a w :=
 wp_region_any hm (Qhi _ _ _ _ h)
end
end Go.Proofs.YtmdaammalacifaaGreat.Gen
namespace Go.Proofs.YtmdaammalacifaaGreat
open Gen
theorem zG {α : Type} : (∀ (l : List α) (i : Nat) (h : i < l.toArray.size), l.toArray[i] = l[i]'(by simpa using h)) /\ (∀ (a : α) (l : List α) (i : Nat) (h : i + 1 < (a :: l).length), (a :: l)[i + 1] = l[i]'(by simpa using h)) /\ (∀ (a : α) (l : List α) (h : 0 < (a :: l).length), (a :: l)[0] = a) := ⟨fun _ _ _ => rfl, fun _ _ _ _ => rfl, fun _ _ _ => rfl⟩
theorem zY {α : Type} : (∀ (l : List α) (i : Nat) (h : i < l.toArray.size), l.toArray[i] = l[i]'(by simpa using h)) /\ (∀ (a : α) (l : List α) (i : Nat) (h : i + 1 < (a :: l).length), (a :: l)[i + 1] = l[i]'(by simpa using h)) /\ (∀ (a : α) (l : List α) (h : 0 < (a :: l).length), (a :: l)[0] = a) /\ (∀ (l : List α) (i : Nat) (v : α), l.toArray.setIfInBounds i v = (l.set i v).toArray) /\ (∀ (a v : α) (l : List α), (a :: l).set 0 v = v :: l) /\ (∀ (a v : α) (l : List α) (i : Nat), (a :: l).set (i + 1) v = a :: l.set i v) := ⟨fun _ _ _ => rfl, fun _ _ _ _ => rfl, fun _ _ _ => rfl, fun _ _ _ => by simp, fun _ _ _ => rfl, fun _ _ _ _ => rfl⟩
theorem zX : (∀ (a : Act) (v : Value), a.put none v = a) /\ (∀ (a : Act) (t : Tmp) (v : Value), a.put (some t) v = { a with tmps := a.tmps.setIfInBounds t v }) := ⟨fun _ _ => rfl, fun _ _ _ => rfl⟩
section
variable {P : Program} {md : Region.Mode} {ops : Array Oper} {Q : Go.Exit -> Act -> World -> Prop} {S : World -> Prop} {fuel : Nat} {listed : Array Bool} {a : Act} {w : World}
def ZTk (_ : List Nat) (P : Program) (md : Region.Mode) (ops : Array Oper) (Q : Go.Exit -> Act -> World -> Prop) (S : World -> Prop) (fuel : Nat) (listed : Array Bool) (a : Act) (w : World) : Prop := wpAnyH P md ops Q S fuel listed a w
theorem ztk (is : List Nat) (h : ZTk is P md ops Q S fuel listed a w) : wpAnyH P md ops Q S fuel listed a w := h
theorem zt1 (i : Nat) (h : ZTk [i] P md ops Q S fuel listed a w) : wpAnyH P md ops Q S fuel listed a w := h
theorem zte (h : wpAnyH P md ops Q S fuel listed a w) : ZTk [] P md ops Q S fuel listed a w := h
theorem ztn {i : Nat} {is : List Nat} {oi : Oper} {v : Value} (hi : ops[i]? = some oi := by rfl) (hw : Region.wanted oi (yielded ops a.tmps) = true := by rfl) (hy : ∀ w, S w -> (execOp a.eval oi).run P w = .ok (.value v) w := by (intro w hSw; (try dsimp only at hSw); go_simp<;>with_reducible rfl)) (hS : S w := by assumption) (hs : Region.noSelect ops = true := by kernel_rfl) (hf : Region.free md ops listed i = true := by kernel_rfl) (hr : (Region.ready md ops listed).contains i = true := by kernel_rfl)
 (hQ : ∀ c a w, Q (.panic c) (a.put oi.dst v) w -> Q (.panic c) a w := by exact fun _ _ _ h => h) (h : ZTk is P md ops Q S fuel (listed.setIfInBounds i true) (a.put oi.dst v) w) : ZTk (i :: is) P md ops Q S (fuel + 1) listed a w := wpAnyH_take hi hs hf hr hQ (.inl ⟨hw, hy⟩) hS h
theorem ztu {i : Nat} {is : List Nat} {oi : Oper} (hi : ops[i]? = some oi := by rfl) (hw : Region.wanted oi (yielded ops a.tmps) = false := by rfl) (hS : S w := by assumption) (hs : Region.noSelect ops = true := by kernel_rfl) (hf : Region.free md ops listed i = true := by kernel_rfl) (hr : (Region.ready md ops listed).contains i = true := by kernel_rfl)
 (hQ : ∀ c a w, Q (.panic c) (a.put oi.dst undef) w -> Q (.panic c) a w := by exact fun _ _ _ h => h) (h : ZTk is P md ops Q S fuel (listed.setIfInBounds i true) (a.put oi.dst undef) w) : ZTk (i :: is) P md ops Q S (fuel + 1) listed a w := wpAnyH_take hi hs hf hr hQ (.inr ⟨hw, rfl⟩) hS h
theorem zR1 (i : Nat) {o : Oper} (h : ∀ K' : Act -> World -> Prop, Shut (∀ a w, S w -> (S w -> wpAnyH P md ops Q S fuel (listed.setIfInBounds i true) a w) -> K' a w) -> if Region.wanted o (yielded ops a.tmps) = true then Oper.wp P o a w K' Q else K' (a.put o.dst undef) w) (ho : ops[i]? = some o := by rfl) (hr : Region.ready md ops listed = [i] := by kernel_rfl) : wpAnyH P md ops Q S (fuel + 1) listed a w := wpAnyH_ready hr (by simp) (.cons ho h .nil)
theorem zR2 (i j : Nat) {o o2 : Oper} (h : ∀ K' : Act -> World -> Prop, Shut (∀ a w, S w -> (S w -> wpAnyH P md ops Q S fuel (listed.setIfInBounds i true) a w) -> K' a w) -> if Region.wanted o (yielded ops a.tmps) = true then Oper.wp P o a w K' Q else K' (a.put o.dst undef) w) (h2 : ∀ K' : Act -> World -> Prop, Shut (∀ a w, S w -> (S w -> wpAnyH P md ops Q S fuel (listed.setIfInBounds j true) a w) -> K' a w) -> if Region.wanted o2 (yielded ops a.tmps) = true then Oper.wp P o2 a w K' Q else K' (a.put o2.dst undef) w)
 (ho : ops[i]? = some o := by rfl) (ho2 : ops[j]? = some o2 := by rfl) (hr : Region.ready md ops listed = [i, j] := by kernel_rfl) : wpAnyH P md ops Q S (fuel + 1) listed a w := wpAnyH_ready hr (by simp) (.cons ho h (.cons ho2 h2 .nil))
theorem zR3 (i j k : Nat) {o o2 o3 : Oper} (h : ∀ K' : Act -> World -> Prop, Shut (∀ a w, S w -> (S w -> wpAnyH P md ops Q S fuel (listed.setIfInBounds i true) a w) -> K' a w) -> if Region.wanted o (yielded ops a.tmps) = true then Oper.wp P o a w K' Q else K' (a.put o.dst undef) w) (h2 : ∀ K' : Act -> World -> Prop, Shut (∀ a w, S w -> (S w -> wpAnyH P md ops Q S fuel (listed.setIfInBounds j true) a w) -> K' a w) -> if Region.wanted o2 (yielded ops a.tmps) = true then Oper.wp P o2 a w K' Q else K' (a.put o2.dst undef) w)
 (h3 : ∀ K' : Act -> World -> Prop, Shut (∀ a w, S w -> (S w -> wpAnyH P md ops Q S fuel (listed.setIfInBounds k true) a w) -> K' a w) -> if Region.wanted o3 (yielded ops a.tmps) = true then Oper.wp P o3 a w K' Q else K' (a.put o3.dst undef) w)
 (ho : ops[i]? = some o := by rfl) (ho2 : ops[j]? = some o2 := by rfl) (ho3 : ops[k]? = some o3 := by rfl) (hr : Region.ready md ops listed = [i, j, k] := by kernel_rfl) : wpAnyH P md ops Q S (fuel + 1) listed a w := wpAnyH_ready hr (by simp) (.cons ho h (.cons ho2 h2 (.cons ho3 h3 .nil)))
theorem zdn (h : Q .normal a w) (hr : Region.ready md ops listed = [] := by kernel_rfl) : wpAnyH P md ops (NoPanic Q) S fuel listed a w := wpAnyH_done hr (NoPanic.normal h) _
end
section
variable {P : Program} {md : Region.Mode} {ops : Array Oper} {Q : Go.Exit -> Act -> World -> Prop} {S : World -> Prop} {z fuel : Nat} {listed : Array Bool} {a : Act} {w : World}
def ZPk (_ : List Nat) (P : Program) (md : Region.Mode) (ops : Array Oper) (Q : Go.Exit -> Act -> World -> Prop) (S : World -> Prop) (z fuel : Nat) (listed : Array Bool) (a : Act) (w : World) : Prop := Qbo P md ops Q S z fuel listed a w
theorem zpk (is : List Nat) (h : ZPk is P md ops Q S z fuel listed a w) : Qbo P md ops Q S z fuel listed a w := h
theorem zp1 (i : Nat) (h : ZPk [i] P md ops Q S z fuel listed a w) : Qbo P md ops Q S z fuel listed a w := h
theorem zpe (h : Qbo P md ops Q S z fuel listed a w) : ZPk [] P md ops Q S z fuel listed a w := h
theorem zpn {i : Nat} {is : List Nat} {oi : Oper} {v : Value} (hi : ops[i]? = some oi := by rfl) (hw : Region.wanted oi (yielded ops a.tmps) = true := by rfl) (hy : ∀ w, S w -> (execOp a.eval oi).run P w = .ok (.value v) w := by (intro w hSw; (try dsimp only at hSw); go_simp<;>with_reducible rfl)) (hS : S w := by assumption) (hz : Qby md ops z = true := by kernel_rfl) (hs : Region.noSelect ops = true := by kernel_rfl) (hiz : i ≠ z := by decide) (hf : Region.free md ops listed i = true := by kernel_rfl) (hr : (Region.ready md ops listed).contains i = true := by kernel_rfl)
 (hQ : ∀ c a w, Q (.panic c) (a.put oi.dst v) w -> Q (.panic c) a w := by exact fun _ _ _ h => h) (h : ZPk is P md ops Q S z fuel (listed.setIfInBounds i true) (a.put oi.dst v) w) : ZPk (i :: is) P md ops Q S z (fuel + 1) listed a w := Qdc hz hi hs hiz hf hr hQ (.inl ⟨hw, hy⟩) hS h
theorem zpu {i : Nat} {is : List Nat} {oi : Oper} (hi : ops[i]? = some oi := by rfl) (hw : Region.wanted oi (yielded ops a.tmps) = false := by rfl) (hS : S w := by assumption) (hz : Qby md ops z = true := by kernel_rfl) (hs : Region.noSelect ops = true := by kernel_rfl) (hiz : i ≠ z := by decide) (hf : Region.free md ops listed i = true := by kernel_rfl) (hr : (Region.ready md ops listed).contains i = true := by kernel_rfl)
 (hQ : ∀ c a w, Q (.panic c) (a.put oi.dst undef) w -> Q (.panic c) a w := by exact fun _ _ _ h => h) (h : ZPk is P md ops Q S z fuel (listed.setIfInBounds i true) (a.put oi.dst undef) w) : ZPk (i :: is) P md ops Q S z (fuel + 1) listed a w := Qdc hz hi hs hiz hf hr hQ (.inr ⟨hw, rfl⟩) hS h
end
end Go.Proofs.YtmdaammalacifaaGreat
