/-
  The program's map of makers told at this seat: the makers that stand in it, by their places, each anew. No condition but that there are at most 1048576; that the library sorts is a premise here.
-/
import Derived.Test.YtpbbpjckkccjaaaMkRange
import Derived.Test.YtpbbpjckkccjaaaPutParts
import Derived.Test.YtpbbpjckkccjaaaMakList2
namespace Go.Proofs.Ytpbbpjckkccjaaa.Gen
open Go.ChangeShapes Go.WideShapes Go.ChangeAt Go.RowKit Go.Joins Go.Deep Base
set_option linter.unusedVariables false
set_option linter.unusedSimpArgs false

/-- A maker with its place. -/
structure PV where
  place : Nat
  m : MC
instance : Inhabited PV := ⟨⟨0, default⟩⟩
def PV.cs (x : PV) : List Value := [.int .i64 (x.place : Int), .int .i64 x.m.row, .int .i64 x.m.who, .int .i64 x.m.epoch, .int .i64 x.m.last, .slice x.m.A x.m.ms.length x.m.cap]
instance : Cel PV where
  k := 6
  cs := PV.cs
  len _ := rfl
  one x u hu := by simp [PV.cs] at hu; rcases hu with rfl | rfl | rfl | rfl | rfl | rfl <;> rfl
theorem infoPV : (Try.prog.info? 75).map (fun i => (i.zero, i.size, i.bytes)) = some (some (.agg #[.int .i64 0, .int .i64 0, .int .i64 0, .int .i64 0, .int .i64 0, .slice none 0 0]), 6, 64) := by kernel_rfl
theorem In.getPV {w : World} {b o : Nat} {l : List PV} (h : In w b o l) (i : Nat) (hi : i < l.length) :
    w.cell? ⟨b, o + i * 6, none⟩ = some (.int .i64 (l[i].place : Int)) ∧ w.cell? ⟨b, o + i * 6 + 1, none⟩ = some (.int .i64 l[i].m.row) ∧ w.cell? ⟨b, o + i * 6 + 2, none⟩ = some (.int .i64 l[i].m.who) ∧ w.cell? ⟨b, o + i * 6 + 3, none⟩ = some (.int .i64 l[i].m.epoch) ∧
      w.cell? ⟨b, o + i * 6 + 4, none⟩ = some (.int .i64 l[i].m.last) ∧ w.cell? ⟨b, o + i * 6 + 5, none⟩ = some (.slice l[i].m.A l[i].m.ms.length l[i].m.cap) :=
  ⟨h.cell i hi (f := 0) rfl, h.cell i hi (f := 1) rfl, h.cell i hi (f := 2) rfl, h.cell i hi (f := 3) rfl, h.cell i hi (f := 4) rfl, h.cell i hi (f := 5) rfl⟩
def pvOf (l : List MC) (i : Nat) : PV := ⟨i, l.getD i default⟩
theorem pvOf_at {l : List MC} {i : Nat} (h : i < l.length) : pvOf l i = ⟨i, l[i]⟩ := by simp [pvOf, h]
theorem make_room {P : Program} {ts ti : TypeId} {z : Value} {k bytes : Nat} (hu : P.underlying ts = some (.slice ti)) (hinfo : (P.info? ti).map (fun i => (i.zero, i.size, i.bytes)) = some (some z, k, bytes)) (hby : bytes ≤ 1000) (n : Nat) (hn : n ≤ 1048576) (w : World) :
    (Instr.makeSlice ts (.int .i64 0) (.int .i64 (n : Int))).run P w = .ok (.slice (some ⟨w.heap.size, 0, none⟩) 0 n) (w.alloc (.cells (madeCells z.cells (n * k)) ti)) := by
  obtain ⟨i0, hi, hz0, hz1, hz2⟩ := info_parts hinfo
  have hsum : bytes * n ≤ 281474976710656 := Nat.le_trans (Nat.mul_le_mul hby hn) (by omega)
  have r := run_make (P := P) w ts ti i0 z hu hi hz0 .i64 .i64 0 n (by omega) (by omega) (by rw [hz2, ← Int.natCast_mul]; omega) (by omega)
  rw [r, hz1]
  simp
theorem onePV (w : World) (x : PV) (t : TypeId) : In (w.alloc (.cells (Cel.cs x).toArray t)) w.heap.size 0 [x] := by
  intro j v hv
  rw [flat_one] at hv
  rw [Nat.zero_add]
  exact (Blk.new w t _).cell (by simpa using hv)

/-- What is asked of the library's sort: the makers by their places, in the same block. -/
def Sorts : Prop := ∀ (Q g c : Nat) (d : List PV) (W : World), d.length ≤ 1048576 → W.ownsRow Q 75 6 (.slice (some ⟨g, 0, none⟩) d.length c) d.length (flat d) →
  Calls Try.prog 59 #[.slice (some ⟨g, 0, none⟩) d.length c, .func (.func 60) #[] #[]] W fun e w' =>
    e = .returned (.tuple #[]) ∧ ∃ d' : List PV, d'.Perm d ∧ d'.Pairwise (fun x y => x.place ≤ y.place) ∧ w'.ownsRow Q 75 6 (.slice (some ⟨g, 0, none⟩) d.length c) d.length (flat d') ∧ Offp (fun x => x = g) W w'

set_option maxRecDepth 100000 in
set_option maxHeartbeats 2000000 in
theorem told_any (hsort : Sorts) (b c : Nat) (l : List MC) (I : List Nat) (hI : ∀ i ∈ I, i < c ∧ i < l.length) (hnd : I.Pairwise (· < ·)) (hl : l.length ≤ 1048576) (hms : ∀ x ∈ l, x.ms.length ≤ 1048576) (w : World) (hM : MapOn w b l I c) (hE : Each w l) :
    Calls Try.prog 40 #[.map (some b)] w fun e w' => ∃ g l', e = .returned (.slice (some ⟨g, 0, none⟩) l'.length l'.length) ∧ w.heap.size ≤ g ∧ Grow makP w' g l'.length l' ∧ l'.map MC.p = I.map (fun i => (l.getD i default).p) ∧ Below w.heap.size w w' := by
  have hIl : I.length ≤ 1048576 := by
    have h1 : I.Nodup := hnd.imp (fun h => Nat.ne_of_lt h)
    have h2 : I ⊆ List.range l.length := fun i hi => by simpa using (hI i hi).2
    have h3 := List.Nodup.length_le_of_subset h1 h2
    simp at h3; omega
  have hsz : (entsI l I).size = I.length := by simp [entsI]
  have hlen : (Builtin.len_ #[64] 3 #[.map (some b)]).run Try.prog w = .ok (.int .i64 (I.length : Int)) w := by
    simp [Builtin.len_, run_underlying Try.underlying64, MapKept.run_getObj_map hM, goInt, hsz, Result.andThen]
  have hmk := make_room (P := Try.prog) Try.underlying94 infoPV (by omega) I.length hIl
  have M1 : MapOn (w.alloc (.cells (madeCells #[.int .i64 0, .int .i64 0, .int .i64 0, .int .i64 0, .int .i64 0, .slice none 0 0] (I.length * 6)) 75)) b l I c := hM.below (alloc0 (Below.refl _ _) _)
  have hrg := run_range_map (P := Try.prog) (w.alloc (.cells (madeCells #[.int .i64 0, .int .i64 0, .int .i64 0, .int .i64 0, .int .i64 0, .slice none 0 0] (I.length * 6)) 75)) 64 67 75 b (entsI l I) c Try.underlying64 M1
  have O1 : (w.alloc (.cells (madeCells #[.int .i64 0, .int .i64 0, .int .i64 0, .int .i64 0, .int .i64 0, .slice none 0 0] (I.length * 6)) 75)).ownsRow w.heap.size 75 6 (.slice (some ⟨w.heap.size, 0, none⟩) 0 I.length) 0 [] := World.ownsRow_made w _ _ (Nat.le_refl _) (by simp [maxLen]; omega) (size_madeCells _ _)
  have HM1 := hidP M1
  have HO1 := hidP O1
  have HE := hidP hE
  have Hms := hidP hms
  have HI := hidP hI
  have Hnd := hidP hnd
  have Hsort := hidP hsort
  have hbw := hM.lt
  clear M1 O1 hE hms hI hnd hM hsort hsz
  go_enter Try.func40, Try.ntmps40
  go_wp2
  go_loopw [3] (fun v W => ∃ (S : Array Nat) (g cc : Nat), v = .slice (some ⟨g, 0, none⟩) S.size cc ∧ S.size ≤ 1048576 ∧ Hid (W.ownsRow w.heap.size 75 6 (.slice (some ⟨g, 0, none⟩) S.size cc) S.size (flat (S.toList.map (pvOf l)))) ∧ Hid (S.toList.Nodup ∧ ∀ i ∈ S.toList, i ∈ I) ∧ Hid (MapOn W b l I c) ∧ Hid (IterOn W (w.heap.size + 1) b c S) ∧ Below w.heap.size w W) (fun _ W => W.rangeLeft b (w.heap.size + 1))
  case atStart =>
    refine ⟨#[], w.heap.size, I.length, rfl, by simp, ?_, ⟨List.nodup_nil, by simp⟩, ?_, ?_, ?_⟩
    · exact owns_offp HO1.out (Offp.of_below (S := fun _ => False) (alloc0 (Below.refl _ _) _)) (fun _ _ e => e)
    · exact HM1.out.below (alloc0 (Below.refl _ _) _)
    · have h := heap_new (w.alloc (.cells (madeCells #[.int .i64 0, .int .i64 0, .int .i64 0, .int .i64 0, .int .i64 0, .slice none 0 0] (I.length * 6)) 75)) (.mapIter (some b) c #[] c)
      rw [World.size_alloc] at h
      exact h
    · repeat (first | exact Below.refl _ _ | assumption | refine via0 (by assumption) ?_ | refine Below.drew ?_ | refine alloc0 ?_ _)
  case round =>
    obtain ⟨S, g, cc, rfl, hS1, hO, hS, hM, hIt, hbl⟩ := hrel
    have hIn : I.Nodup := Hnd.out.imp (fun h => Nat.ne_of_lt h)
    rcases range_step hM.out hIt.out (fun i hi => (HI.out i hi).1) hIn 0 with ⟨hall, hrun⟩ | ⟨i, hi, hiS, w1, hrun, hM1, hIt1, hk1, hent, hless⟩
    · have hperm : (S.toList.map (pvOf l)).Perm (I.map (pvOf l)) := by
        refine List.Perm.map _ ((List.perm_ext_iff_of_nodup hS.out.1 hIn).2 fun a => ⟨hS.out.2 a, fun h => by simpa using hall a h⟩)
      have hSI : S.size = I.length := by have := hperm.length_eq; simpa using this
      have C : Calls Try.prog 59 #[.slice (some ⟨g, 0, none⟩) S.size cc, .func (.func 60) #[] #[]] wr fun e w' =>
          e = .returned (.tuple #[]) ∧ w'.ownsRow w.heap.size 75 6 (.slice (some ⟨g, 0, none⟩) S.size cc) S.size (flat (I.map (pvOf l))) ∧ Offp (fun x => x = g) wr w' := by
        have hSl : (S.toList.map (pvOf l)).length = S.size := by simp
        have h := Hsort.out w.heap.size g cc (S.toList.map (pvOf l)) wr (by rw [hSl]; exact hS1) (by rw [hSl]; exact hO.out)
        rw [hSl] at h
        refine h.mono ?_
        rintro e w' ⟨he, d', hp, hs, ho, hk⟩
        have hd : d' = I.map (pvOf l) := by
          refine List.Perm.eq_of_pairwise (le := fun x y : PV => x.place ≤ y.place) ?_ hs ?_ (hp.trans hperm)
          · intro x y hx hy h1 h2
            obtain ⟨i, _, rfl⟩ := List.mem_map.1 ((hp.trans hperm).mem_iff.1 hx)
            obtain ⟨j, _, rfl⟩ := List.mem_map.1 hy
            have : i = j := Nat.le_antisymm h1 h2
            rw [this]
          · exact List.pairwise_map.2 (Hnd.out.imp (fun h => Nat.le_of_lt h))
        exact ⟨he, hd ▸ ho, hk⟩
      have HC := hidP C
      have hgw : w.heap.size ≤ g ∧ g < wr.heap.size := hO.out.lt g rfl
      have HSI := hidP hSI
      clear hperm C hall hSI
      have hmk2 := make_els (P := Try.prog) Try.underlying30 infoMC (by omega) S.size hS1
      go_wp2_with fail
      refine HC.out.mono ?_
      rintro e w1 ⟨rfl, ho1, k1⟩
      have B1 : Below w.heap.size w w1 := hbl.trans (k1.toBelow (fun x hx => by omega) hbl.size)
      have hgw1 : g < w1.heap.size := Nat.lt_of_lt_of_le hgw.2 k1.size
      have hat1 : At w1 (some ⟨g, 0, none⟩) (I.map (pvOf l)) := owns_at (by simp; exact HSI.out) ho1
      have Hat1 := hidP hat1
      have hgw0 := hgw.1
      clear ho1 k1 hat1 HC hrun hO hS hM hIt hlen hmk hrg HO1 HM1 hgw
      go_wp2
      go_loopw [29] (fun i W => ∃ (n : Nat) (pre : List MC), i = .int .i64 (n : Int) ∧ n ≤ S.size ∧ w1.heap.size < W.heap.size ∧ Hid (pre.length = n) ∧ Hid (Grow makP W w1.heap.size S.size pre) ∧ Hid (pre.map MC.p = (I.take n).map (fun i => (l.getD i default).p)) ∧ Hid (At W (some ⟨g, 0, none⟩) (I.map (pvOf l))) ∧ Below w.heap.size w W) (fun i _ => S.size - (intOf i).toNat)
      case atStart =>
        exact ⟨0, [], rfl, by omega, by simp, rfl, Grow.start (by simp) (made_there w1 _ _ _ _), by simp [Hid], Hat1.out.below (alloc0 (Below.refl _ _) _), by repeat (first | exact Below.refl _ _ | assumption | refine via0 (by assumption) ?_ | refine Below.drew ?_ | refine alloc0 ?_ _)⟩
      case round =>
        obtain ⟨n, pre, rfl, hn, hsz, hpl, hgr, hsame, hAt, hbl⟩ := hrel
        by_cases hlt : n < S.size
        · have hnI : n < I.length := by have := HSI.out; omega
          have hlt' : n < (I.map (pvOf l)).length := by simpa using hnI
          have hIn2 : In wr g 0 (I.map (pvOf l)) := by
            rcases hAt.out with h | ⟨b', o', e, _, h⟩
            · rw [h] at hlt'; simp at hlt'
            · cases e; exact h
          obtain ⟨c0, c1, c2, c3, c4, c5⟩ := hIn2.getPV n hlt'
          simp only [Nat.zero_add, List.getElem_map] at c0 c1 c2 c3 c4 c5
          have hin := HI.out _ (List.getElem_mem hnI)
          have hym : (pvOf l I[n]).m = l[I[n]]'hin.2 := by rw [pvOf_at hin.2]
          have hms := Hms.out _ (List.getElem_mem hin.2)
          have hat := (HE.out _ (List.getElem_mem hin.2)).below hbl
          rw [← hym] at hms hat
          have hpp : Hid (((I.take (n + 1)).map (fun i => (l.getD i default).p)) = ((I.take n).map (fun i => (l.getD i default).p)) ++ [(pvOf l I[n]).m.p]) := by
            show _ = _
            rw [List.take_succ_eq_append_getElem hnI, List.map_append]; rfl
          generalize pvOf l I[n] = y at c0 c1 c2 c3 c4 c5 hms hat hpp
          clear hym hin
          obtain ⟨pl, ⟨xr, xw, xe, xl, xA, xc, xm⟩⟩ := y
          simp only at c0 c1 c2 c3 c4 c5 hms hat
          have Hat := hidP hat
          have Hth := hgr.out.th
          obtain ⟨⟨v0, d0⟩, f0⟩ := there_at (f := 0) Hth hlt (by decide)
          obtain ⟨⟨v1, d1⟩, f1⟩ := there_at (f := 1) Hth hlt (by decide)
          obtain ⟨⟨v2, d2⟩, f2⟩ := there_at (f := 2) Hth hlt (by decide)
          obtain ⟨⟨v3, d3⟩, f3⟩ := there_at (f := 3) Hth hlt (by decide)
          obtain ⟨⟨v4, d4⟩, f4⟩ := there_at (f := 4) Hth hlt (by decide)
          simp only [Nat.zero_add, Nat.add_zero, show Cel.k MC = 5 from rfl] at d0 f0 d1 f1 d2 f2 d3 f3 d4 f4
          have hi0 : (0 : Int) ≤ (n : Int) := by omega
          have hi1 : (n : Int) < (S.size : Int) := by omega
          clear hat Hth hIn2
          go_wp2_with (go_at_call 33; refine (implCopied_any xr xw xe xl xA xc xm hms _ (Hat.out.below (alloc0 (Below.refl _ _) _))).mono ?_; rintro e w2 ⟨v, rfl, hov, g2⟩; obtain ⟨xa, xcc, rfl, _⟩ := owns_form hov; have Hov := hidP hov; have gg := hidP (via0 g2 (alloc0 (Below.refl _ _) _)); obtain ⟨k2, m2⟩ := bcell gg.out; have s2 := gg.out.size; clear hov g2)
          have hfr := fresh_owns (α := Mk) Hov.out
          obtain ⟨fa, fc, fe, _, hfr⟩ := hfr
          cases fe
          have hP : makP w2 ⟨xr, xw, xe, xl, xa, xcc, xm⟩ (fun b => wr.heap.size ≤ b ∧ b < w2.heap.size) := by
            rcases hfr with h | ⟨b', o', e, hB, hb', hi', ht'⟩
            · exact .inl h
            · exact .inr ⟨b', o', e, ⟨by simp at hB; omega, hb'⟩, hb', hi', ht'⟩
          have hpl' := hpl.out
          have hst := hgr.out.snoc makP_firm (by omega) gg.out hP (fun x hx => hx)
          have ko := Offp.of_only (setCells_off w2 w1.heap.size (Cel.cs (⟨xr, xw, xe, xl, xa, xcc, xm⟩ : MC)) (pre.length * 5))
          have hat3 : At (w2.setCells w1.heap.size (pre.length * 5) (Cel.cs (⟨xr, xw, xe, xl, xa, xcc, xm⟩ : MC))) (some ⟨g, 0, none⟩) (I.map (pvOf l)) :=
            (hAt.out.below gg.out).imp id fun ⟨b', o', e, hb', hi'⟩ => ⟨b', o', e, Nat.lt_of_lt_of_le hb' ko.size, hi'.offp ko hb' (by cases e; omega)⟩
          have hB3 : Below w.heap.size w (w2.setCells w1.heap.size (pre.length * 5) (Cel.cs (⟨xr, xw, xe, xl, xa, xcc, xm⟩ : MC))) := (via0 gg.out hbl).trans (ko.toBelow (fun x hx => by have := B1.size; omega) (via0 gg.out hbl).size)
          have hz3 := ko.size
          rw [hpl'] at hst hat3 hB3 hz3
          refine ⟨⟨n + 1, _, by go_num, by omega, ?_, ?_, hst, ?_, hat3, hB3⟩, by simp [intOf]; omega⟩
          · exact Nat.lt_of_lt_of_le (by omega) hz3
          · show _ = _; simp [hpl']
          · show _ = _
            rw [List.map_append, hsame.out, hpp.out]
            rfl
        · obtain rfl : n = S.size := by omega
          have hpl' := hpl.out
          have hF : Hid (pre.map MC.p = I.map (fun i => (l.getD i default).p)) := by
            have h := hsame.out
            rw [List.take_of_length_le (by have := HSI.out; omega)] at h
            exact h
          go_wp2
          go_ret
          refine ⟨w1.heap.size, pre, by rw [hpl']; rfl, by have := B1.size; omega, by rw [hpl']; exact hgr.out, hF.out, hbl⟩
    · have hil : i < l.length := (HI.out i hi).2
      rw [ent_at l i hil] at hrun hent
      simp only [mkey, pval] at hrun hent
      have hpv := pvOf_at hil
      have hS2 : (S.push i).toList.Nodup ∧ ∀ j ∈ (S.push i).toList, j ∈ I := by
        rw [Array.toList_push]
        refine ⟨List.nodup_append.2 ⟨hS.out.1, by simp, fun a ha c hc e => ?_⟩, fun j hj => ?_⟩
        · simp only [List.mem_singleton] at hc
          exact hiS (by rw [← hc, ← e]; simpa using ha)
        · rcases List.mem_append.1 hj with h | h
          · exact hS.out.2 j h
          · simp only [List.mem_singleton] at h; rw [h]; exact hi
      have hS3 : (S.push i).size ≤ 1048576 := by
        have h3 := List.Nodup.length_le_of_subset hS2.1 (show (S.push i).toList ⊆ I from hS2.2)
        simp at h3 ⊢; omega
      have hgne : g ≠ w.heap.size + 1 := fun e => by
        rcases hO.out.2 with ⟨h, _⟩ | ⟨g', c', cur, h, hB, hgb, _⟩
        · cases h
        · cases h; rw [e] at hgb; have := hgb.symm.trans hIt.out; cases this
      have hgb : g ≠ b := fun e => by
        rcases hO.out.2 with ⟨h, _⟩ | ⟨g', c', cur, h, hB, hgb, _⟩
        · cases h
        · cases h; rw [e] at hgb; have := hgb.symm.trans hM.out; cases this
      have hO1 := owns_offp hO.out hk1 (fun x hx e => by cases hx; exact hgne e)
      have B1 : Below w.heap.size w w1 := hbl.trans (hk1.toBelow (fun x hx => by omega) hbl.size)
      generalize l[i] = x at hrun hent hpv
      generalize again l i x = ag at hrun hent
      obtain ⟨xr, xw, xe, xl, xA, xc, xm⟩ := x
      simp only at hrun hent
      have hO2 : ((w1.alloc (.cells #[.int .i64 (i : Int), .int .i64 xr, .int .i64 xw, .int .i64 xe, .int .i64 xl, .slice xA xm.length xc] 75)).alloc (.cells #[.int .i64 (i : Int), .int .i64 xr, .int .i64 xw, .int .i64 xe, .int .i64 xl, .slice xA xm.length xc] 75)).ownsRow w.heap.size 75 6 (.slice (some ⟨g, 0, none⟩) S.size cc) S.size (flat (S.toList.map (pvOf l))) := owns_offp hO1 (Offp.of_below (S := fun _ => False) (alloc0 (alloc0 (Below.refl _ _) _) _)) (fun _ _ e => e)
      have hA2 : At ((w1.alloc (.cells #[.int .i64 (i : Int), .int .i64 xr, .int .i64 xw, .int .i64 xe, .int .i64 xl, .slice xA xm.length xc] 75)).alloc (.cells #[.int .i64 (i : Int), .int .i64 xr, .int .i64 xw, .int .i64 xe, .int .i64 xl, .slice xA xm.length xc] 75)) (some ⟨w1.heap.size + 1, 0, none⟩) [(⟨i, ⟨xr, xw, xe, xl, xA, xc, xm⟩⟩ : PV)] := by
        have h := onePV (w1.alloc (.cells #[.int .i64 (i : Int), .int .i64 xr, .int .i64 xw, .int .i64 xe, .int .i64 xl, .slice xA xm.length xc] 75)) (⟨i, ⟨xr, xw, xe, xl, xA, xc, xm⟩⟩ : PV) 75
        rw [World.size_alloc] at h
        exact .inr ⟨_, 0, rfl, by simp, h⟩
      have hSl : S.size = (S.toList.map (pvOf l)).length := by simp
      have B2 : Below w.heap.size w ((w1.alloc (.cells #[.int .i64 (i : Int), .int .i64 xr, .int .i64 xw, .int .i64 xe, .int .i64 xl, .slice xA xm.length xc] 75)).alloc (.cells #[.int .i64 (i : Int), .int .i64 xr, .int .i64 xw, .int .i64 xe, .int .i64 xl, .slice xA xm.length xc] 75)) := alloc0 (alloc0 B1 _) _
      obtain ⟨v', w3, hr, hown, hgrow, hat⟩ := append_els (P := Try.prog) Try.underlying94 infoPV rfl (by decide) (by decide) w.heap.size (.slice (some ⟨g, 0, none⟩) S.size cc) (S.toList.map (pvOf l)) [(⟨i, ⟨xr, xw, xe, xl, xA, xc, xm⟩⟩ : PV)] (some ⟨w1.heap.size + 1, 0, none⟩) 1 _ B2.size (by rw [← hSl]; exact hO2) hA2 (by simp; omega)
      rw [← hSl] at hown
      have hfl : S.toList.map (pvOf l) ++ [(⟨i, ⟨xr, xw, xe, xl, xA, xc, xm⟩⟩ : PV)] = (S.push i).toList.map (pvOf l) := by rw [Array.toList_push, List.map_append, List.map_singleton, hpv]
      rw [hfl] at hown
      have hps : S.size + [(⟨i, ⟨xr, xw, xe, xl, xA, xc, xm⟩⟩ : PV)].length = (S.push i).size := by simp
      rw [hps] at hown
      obtain ⟨g', c', rfl⟩ : ∃ g' c', v' = .slice (some ⟨g', 0, none⟩) (S.push i).size c' := by
        rcases hown.2 with ⟨_, h⟩ | ⟨g', c', cur, h, _⟩
        · simp at h
        · exact ⟨g', c', h⟩
      have ko := offp_grown hgrow
      have M3 := ((hM1.below (alloc0 (alloc0 (Below.refl _ _) (.cells #[.int .i64 (i : Int), .int .i64 xr, .int .i64 xw, .int .i64 xe, .int .i64 xl, .slice xA xm.length xc] 75)) (.cells #[.int .i64 (i : Int), .int .i64 xr, .int .i64 xw, .int .i64 xe, .int .i64 xl, .slice xA xm.length xc] 75)))).offp ko (fun e => by cases e; exact hgb rfl)
      have I3 := ((hIt1.below (alloc0 (alloc0 (Below.refl _ _) (.cells #[.int .i64 (i : Int), .int .i64 xr, .int .i64 xw, .int .i64 xe, .int .i64 xl, .slice xA xm.length xc] 75)) (.cells #[.int .i64 (i : Int), .int .i64 xr, .int .i64 xw, .int .i64 xe, .int .i64 xl, .slice xA xm.length xc] 75)))).offp ko (fun e => by cases e; exact hgne rfl)
      have B3 : Below w.heap.size w w3 := B2.trans (ko.toBelow (fun x hx => (hO2.lt x hx).1) B2.size)
      have hl3 : w3.rangeLeft b (w.heap.size + 1) < wr.rangeLeft b (w.heap.size + 1) := by rw [rangeLeft_offp hM1 hIt1 M3 I3]; exact hless
      have HM3 := hidP M3
      have HI3 := hidP I3
      have HB3 := hidP B3
      have HO3 := hidP hown
      have HS2 := hidP hS2
      have Hl3 := hidP hl3
      have Hps := hidP hps
      simp only [List.length_cons, List.length_nil, Nat.zero_add, World.size_alloc] at hr
      clear M3 I3 B3 hown hS2 hl3 ko hgrow hat hM1 hIt1 hk1 hless hO1 hO2 hA2 hSl B2 hfl hps hpv hgne hgb B1
      go_wp2_with (at_builtin; refine wpList_append_is rfl _ _ _ rfl _ _ _ rfl rfl hr ?_)
      exact ⟨⟨S.push i, g', c', by simp, hS3, HO3, HS2, HM3, HI3, HB3.out⟩, Hl3.out⟩
end Go.Proofs.Ytpbbpjckkccjaaa.Gen
