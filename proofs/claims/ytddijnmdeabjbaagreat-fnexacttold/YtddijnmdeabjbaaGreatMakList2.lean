/-
  Lists of makers in blocks of their own: made by the laws' toMakerS, marked and held. No condition but that there are at most 1048576.
-/
import Derived.Test.YtddijnmdeabjbaaGreatAns
set_option linter.unusedVariables false
set_option linter.unusedSimpArgs false
set_option maxRecDepth 100000
set_option maxHeartbeats 8000000
namespace Go.Proofs.YtddijnmdeabjbaaGreat.Gen
open ChangeShapes WideShapes ChangeAt RowKit Joins Deep Base
def makP (w : World) (x : MC) (S : Nat -> Prop) : Prop := Sub w x.A x.ms S
theorem Qam : Firm makP := fun w w' x S T h k hd => Sub.offp h k hd
theorem makP_each {S : Nat -> Prop} {w : World} {a : Option Addr} {l : List MC} (h : Own makP w a l S) : Each w l := h.each (fun x S hx => Sub.at hx)
theorem Qce (A : Option Addr) (cap : Nat) (l : List MC) (hl : l.length <= 1048576) (hr : ∀ x ∈ l, x.ms.length <= 1048576) (w : World) (hA : At w A l) (hE : Each w l) :
 Calls Tryz.prog 119 #[.slice A l.length cap] w fun e w' => e = .returned (.slice (some ⟨w.heap.size, 0, none⟩) l.length l.length) /\ Below w.heap.size w w' /\ ∃ l', Grow makP w' w.heap.size l.length l' /\ l'.map MC.p = l.map MC.p := by
 have HA := hidP hA
 have HE := hidP hE
 have Hr := hidP hr
 clear hA hE hr
 have hmk := Qan (P := Tryz.prog) Tryz.underlying56 infoMC (by omega) l.length hl
 go_enter Tryz.func119, Tryz.ntmps119
 go_wp2
 go_loopw [4] (fun i w' => ∃ (n : Nat) (pre : List MC), i = .int .i64 (n : Int) /\ n <= l.length /\ Below w.heap.size w w' /\ w.heap.size < w'.heap.size /\ Hid (pre.length = n) /\ Hid (Grow makP w' w.heap.size l.length pre) /\ Hid (pre.map MC.p = (l.take n).map MC.p)) (fun i _ => l.length - (intOf i).toNat)
 case atStart => exact ⟨0, [], rfl, by omega, by repeat (first | exact Below.refl _ _ | assumption | refine via0 (by assumption) ?_ | refine Below.drew ?_ | refine Qaa ?_ _), by simp, rfl, Grow.start (by simp) (Qaf w _ _ _ _), by simp [Hid]⟩
 case round =>
  obtain ⟨n, pre, rfl, hn, hbl, hsz, hpl, hgr, hsame⟩ := hrel
  by_cases hlt : n < l.length
  . obtain ⟨b, o, rfl, hbs, hIn⟩ : ∃ b o, A = some ⟨b, o, none⟩ /\ b < w.heap.size /\ In w b o l := by
     rcases HA.out with h | h
     . subst h; simp at hlt
     . exact h
    obtain ⟨c0, c1, c2, c3, c4⟩ := (hIn.below hbs hbl).getMC n hlt
    have hms := Hr.out _ (List.getElem_mem hlt)
    have hat := hidP ((HE.out _ (List.getElem_mem hlt)).below hbl)
    obtain ⟨⟨v0, d0⟩, f0⟩ := Qab (f := 0) hgr.out.th hlt (by decide)
    obtain ⟨⟨v1, d1⟩, f1⟩ := Qab (f := 1) hgr.out.th hlt (by decide)
    obtain ⟨⟨v2, d2⟩, f2⟩ := Qab (f := 2) hgr.out.th hlt (by decide)
    obtain ⟨⟨v3, d3⟩, f3⟩ := Qab (f := 3) hgr.out.th hlt (by decide)
    obtain ⟨⟨v4, d4⟩, f4⟩ := Qab (f := 4) hgr.out.th hlt (by decide)
    simp only [Nat.zero_add, Nat.add_zero, show Cel.k MC = 5 from rfl] at d0 f0 d1 f1 d2 f2 d3 f3 d4 f4
    go_wp2_with (go_at_call 142; refine (Qdb _ _ _ _ _ _ _ hms _ hat.out).mono ?_; rintro e w1 ⟨bx, rfl, g1, hbx, hbx', hix, htx⟩; obtain ⟨k1, m1⟩ := Qap g1; have s1 := g1.size; have hix := hidP hix; have htx := hidP htx)
    have hpl' := hpl.out
    have hst := hgr.out.snoc Qam (by omega) g1 (y := (⟨l[n].row, l[n].who, l[n].epoch, l[n].last, some ⟨bx, 0, none⟩, l[n].ms.length, l[n].ms⟩ : MC)) (S := fun x => x = bx) (.inr ⟨bx, 0, rfl, rfl, hbx', hix.out, htx.out⟩) (fun x hx => by subst hx; exact ⟨hbx, hbx'⟩)
    rw [hpl'] at hst
    refine ⟨⟨n + 1, _, by go_num, by omega, ?_, by simp; omega, ?_, hst, ?_⟩, by simp [intOf]; omega⟩
    . exact ((((((via0 g1 hbl).setCell (Nat.le_refl _) _).setCell (Nat.le_refl _) _).setCell (Nat.le_refl _) _).setCell (Nat.le_refl _) _).setCell (Nat.le_refl _) _)
    . show _ = _; simp [hpl']
    . show _ = _
      rw [List.map_append, hsame.out, List.take_succ_eq_append_getElem hlt, List.map_append]
      rfl
  . have e : l.take n = l := List.take_of_length_le (by omega)
    go_wp2
    go_ret
    exact ⟨rfl, hbl, pre, hgr.out, by rw [hsame.out, e]⟩
def cM (x : MC) : Nat := 4 + x.ms.length * 2
end Go.Proofs.YtddijnmdeabjbaaGreat.Gen
