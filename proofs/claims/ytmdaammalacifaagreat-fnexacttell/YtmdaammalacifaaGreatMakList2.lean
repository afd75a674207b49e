/-
  Lists of makers in blocks of their own: made by the laws' toMakerS, marked and held. No condition but that there are at most 1048576.
-/
import Derived.Test.YtmdaammalacifaaGreatRecs
import Derived.Test.YtmdaammalacifaaGreatMakList
set_option linter.unusedVariables false
set_option linter.unusedSimpArgs false
set_option maxRecDepth 100000
set_option maxHeartbeats 8000000
namespace Go.Proofs.YtmdaammalacifaaGreat.Gen
open ChangeShapes WideShapes ChangeAt RowKit Joins Deep Base
def makP (w : World) (x : MC) (S : Nat -> Prop) : Prop := Sub w x.A x.ms S
theorem Qap : Firm makP := fun w w' x S T h k hd => Sub.offp h k hd
theorem makP_each {S : Nat -> Prop} {w : World} {a : Option Addr} {l : List MC} (h : Own makP w a l S) : Each w l := h.each (fun x S hx => Sub.at hx)
theorem Qer (A : Option Addr) (cap : Nat) (l : List MC) (hl : l.length <= 1048576) (hr : ∀ x ∈ l, x.ms.length <= 1048576) (w : World) (hA : At w A l) (hE : Each w l) :
 Calls Tryz.prog 68 #[.slice A l.length cap] w fun e w' => e = .returned (.slice (some ⟨w.heap.size, 0, none⟩) l.length l.length) /\ Below w.heap.size w w' /\ ∃ l', Grow makP w' w.heap.size l.length l' /\ l'.map MC.p = l.map MC.p := by
 have HA := hidP hA
 have HE := hidP hE
 have Hr := hidP hr
 clear hA hE hr
 have hmk := Qb2 (P := Tryz.prog) Tryz.underlying49 infoMC (by omega) l.length hl
 go_enter Tryz.func68, Tryz.ntmps68
 go_wp2
 go_loopw [4] (fun i w' => ∃ (n : Nat) (pre : List MC), i = .int .i64 (n : Int) /\ n <= l.length /\ Below w.heap.size w w' /\ w.heap.size < w'.heap.size /\ Hid (pre.length = n) /\ Hid (Grow makP w' w.heap.size l.length pre) /\ Hid (pre.map MC.p = (l.take n).map MC.p)) (fun i _ => l.length - (intOf i).toNat)
 case atStart => exact ⟨0, [], rfl, by omega, by repeat (first | exact Below.refl _ _ | assumption | refine via0 (by assumption) ?_ | refine Below.drew ?_ | refine Qab ?_ _), by simp, rfl, Grow.start (by simp) (Qa9 w _ _ _ _), by simp [Hid]⟩
 case round =>
  obtain ⟨n, pre, rfl, hn, hbl, hsz, hpl, hgr, hsame⟩ := hrel
  by_cases hlt : n < l.length
  . obtain ⟨b, o, rfl, hbs, hIn⟩ : ∃ b o, A = some ⟨b, o, none⟩ /\ b < w.heap.size /\ In w b o l := by
     rcases HA.out with h | h
     . subst h; simp at hlt
     . exact h
    obtain ⟨c0, c1, c2, c3, c4⟩ := (hIn.below hbs hbl).getMC n hlt
    have hms := Hr.out _ (List.getElem_mem hlt)
    have hat := hidP ((HE.out _ (List.getElem_mem hlt)).below hbl)
    obtain ⟨⟨v0, d0⟩, f0⟩ := Qad (f := 0) hgr.out.th hlt (by decide)
    obtain ⟨⟨v1, d1⟩, f1⟩ := Qad (f := 1) hgr.out.th hlt (by decide)
    obtain ⟨⟨v2, d2⟩, f2⟩ := Qad (f := 2) hgr.out.th hlt (by decide)
    obtain ⟨⟨v3, d3⟩, f3⟩ := Qad (f := 3) hgr.out.th hlt (by decide)
    obtain ⟨⟨v4, d4⟩, f4⟩ := Qad (f := 4) hgr.out.th hlt (by decide)
    simp only [Nat.zero_add, Nat.add_zero, show Cel.k MC = 5 from rfl] at d0 f0 d1 f1 d2 f2 d3 f3 d4 f4
    go_wp2_with (go_at_call 111; refine (Qgk _ _ _ _ _ _ _ hms _ hat.out).mono ?_; rintro e w1 ⟨bx, rfl, g1, hbx, hbx', hix, htx⟩; obtain ⟨k1, m1⟩ := Qbf g1; have s1 := g1.size; have hix := hidP hix; have htx := hidP htx)
    have hpl' := hpl.out
    have hst := hgr.out.snoc Qap (by omega) g1 (y := (⟨l[n].row, l[n].who, l[n].epoch, l[n].last, some ⟨bx, 0, none⟩, l[n].ms.length, l[n].ms⟩ : MC)) (S := fun x => x = bx) (.inr ⟨bx, 0, rfl, rfl, hbx', hix.out, htx.out⟩) (fun x hx => by subst hx; exact ⟨hbx, hbx'⟩)
    rw [hpl'] at hst
    refine ⟨⟨n + 1, _, by go_num, by omega, ?_, by simp; omega, ?_, hst, ?_⟩, by simp [intOf]; omega⟩
    . exact ((((((via0 g1 hbl).setCell (Nat.le_refl _) _).setCell (Nat.le_refl _) _).setCell (Nat.le_refl _) _).setCell (Nat.le_refl _) _).setCell (Nat.le_refl _) _)
    . show _ = _; simp [hpl']
    . show _ = _
      rw [List.map_append, hsame.out, List.take_succ_eq_append_getElem hlt, List.map_append]
      rfl
  . have e : l.take n = l := List.take_of_length_le (by omega)
    go_wp2
    go_ret
    exact ⟨rfl, hbl, pre, hgr.out, by rw [hsame.out, e]⟩
def cM (x : MC) : Nat := 4 + x.ms.length * 2
def mM (x : MC) (z : Int) : MC := ⟨z, z + 1, z + 2, z + 3, x.A, x.cap, Qbb x.ms.length (z + 4)⟩
theorem mark_marks (a : Option Addr) (cap : Nat) (l : List Mk) (S : Nat -> Prop) (k : Int) (hk : 1 <= k) (hk' : k <= 100000000) (hl : l.length <= 2000000) (w : World) (h : Sub w a l S) :
 Calls Tryz.prog 128 #[.slice a l.length cap, .int .i64 k] w fun e w' => e = .returned (.int .i64 (k + (l.length : Int) * 2)) /\ Offp S w w' /\ Sub w' a (Qbb l.length k) S := by
 rcases h with rfl | ⟨b, o, rfl, hS, hb, hi, ht⟩
 . refine (Qfz a cap k w).mono ?_
   rintro e w' ⟨rfl, rfl⟩
   exact ⟨by simp, Offp.refl _ _, .inl rfl⟩
 . refine (Qgz b o cap l.length k hk hk' hl w hb ht).mono ?_
   rintro e w' ⟨rfl, ko, hin, hth⟩
   exact ⟨rfl, (Offp.of_only ko).mono (fun x e => e ▸ hS), .inr ⟨b, o, rfl, hS, Nat.lt_of_lt_of_le hb ko.size, hin, by rw [Qbi]; exact hth⟩⟩
theorem Qd9 (b o cap : Nat) (l : List MC) (fp : Nat -> Nat -> Prop) (k : Int) (hk : 1 <= k) (hk' : k <= 50000000) (hc : Qae cM l <= 50000000) (hl : l.length <= 1048576) (hs : ∀ x ∈ l, x.ms.length <= 1048576) (w : World) (hO : OwnF makP w b o l fp) :
 Calls Tryz.prog 89 #[.slice (some ⟨b, o, none⟩) l.length cap, .int .i64 k] w fun e w' => e = .returned (.int .i64 (k + (Qae cM l : Int))) /\ Offp (fun x => x = b ∨ ∃ i, fp i x) w w' /\ OwnF makP w' b o (marked mM cM l k) fp := by
 have HO := hidP hO
 have Hs := hidP hs
 have Hc := hidP hc
 clear hO hs hc
 go_enter Tryz.func89, Tryz.ntmps89
 go_wp2
 go_loopw [1, 5] (fun kk i w' => ∃ (n : Nat) (z : Int), i = .int .i64 (n : Int) /\ kk = .int .i64 z /\ n <= l.length /\ 1 <= z /\ z <= 100000000 /\ Hid (z = k + (Qae cM (l.take n) : Int)) /\ Hid (Offp (fun x => x = b ∨ ∃ i, fp i x) w w') /\ Hid (OwnF makP w' b o (half mM cM l k n) fp)) (fun _ i _ => l.length - (intOf i).toNat)
 case atStart => exact ⟨0, k, rfl, rfl, by omega, hk, by omega, by simp [Hid, Qae], Offp.refl _ _, by rw [Qc8]; exact HO.out⟩
 case round =>
  obtain ⟨n, z, rfl, rfl, hn, hz1, hz2, hz, hoff, hown⟩ := hrel
  by_cases hlt : n < l.length
  . have hhl := Qcm mM cM l k n
    have hge := Qdr mM cM l k n hlt (by omega)
    have hit := Hs.out _ (List.getElem_mem hlt)
    obtain ⟨c0, c1, c2, c3, c4⟩ := hown.out.lst.getMC n (by omega)
    have hth := hown.out.th
    rw [hhl] at hth
    obtain ⟨_, f0⟩ := Qad (f := 0) hth hlt (by decide)
    obtain ⟨_, f1⟩ := Qad (f := 1) hth hlt (by decide)
    obtain ⟨_, f2⟩ := Qad (f := 2) hth hlt (by decide)
    obtain ⟨_, f3⟩ := Qad (f := 3) hth hlt (by decide)
    simp only [Nat.add_zero, show Cel.k MC = 5 from rfl] at f0 f1 f2 f3
    rw [hge] at c0 c1 c2 c3 c4
    have hsu := Qc9 mM cM l k n hlt
    rw [← hz.out] at hsu
    have hcn : Qae cM (l.take n) + cM l[n] <= 50000000 := by rw [← Qas cM l n hlt]; exact Nat.le_trans (Qcb cM l (n + 1)) Hc.out
    have Hsn := hidP (Qas cM l n hlt)
    generalize hx : l[n] = x at c0 c1 c2 c3 c4 hit hsu hcn hge Hsn
    obtain ⟨xr, xw, xe, xl, xA, xc, xi⟩ := x
    simp only at c0 c1 c2 c3 c4 hit
    have O1 := hown.out.set1 Qap n (by omega) ⟨z, xw, xe, xl, xA, xc, xi⟩ 0 (by decide) (.int .i64 z) (by rw [hge]; rfl) (fun W S h => by rw [hge] at h; exact h)
    have O2 := O1.set1 Qap n (by simp; omega) ⟨z, z + 1, xe, xl, xA, xc, xi⟩ 1 (by decide) (.int .i64 (z + 1)) (by rw [List.getElem_set_self]; rfl) (fun W S h => by rw [List.getElem_set_self] at h; exact h)
    have O3 := O2.set1 Qap n (by simp; omega) ⟨z, z + 1, z + 1 + 1, xl, xA, xc, xi⟩ 2 (by decide) (.int .i64 (z + 1 + 1)) (by rw [List.getElem_set_self]; rfl) (fun W S h => by rw [List.getElem_set_self] at h; exact h)
    have O4 := O3.set1 Qap n (by simp; omega) ⟨z, z + 1, z + 1 + 1, z + 1 + 1 + 1, xA, xc, xi⟩ 3 (by decide) (.int .i64 (z + 1 + 1 + 1)) (by rw [List.getElem_set_self]; rfl) (fun W S h => by rw [List.getElem_set_self] at h; exact h)
    simp only [Nat.add_zero, show Cel.k MC = 5 from rfl, List.set_set] at O4
    have Hhl := hidP hhl
    have Hsu := hidP hsu
    have Hcn := hidP hcn
    have HO2 := hidP O4
    have hsub := O4.sub n (by simp; omega)
    rw [List.getElem_set_self] at hsub
    have Hsub := hidP hsub
    have hz' := hz.out
    have hzc : z + 4 <= 100000000 := by
     have h3 := Hcn.out; simp only [cM] at h3; omega
    clear hx hhl hsu hcn O1 O2 O3 O4 hsub hge hth hz'
    go_wp2_with fail
    refine (mark_marks xA xc xi (fp n) _ (by omega) (by omega) (by omega) _ Hsub.out).mono ?_
    rintro e w1 ⟨rfl, ko, hsb⟩
    have hlim : xi.length * 2 + 4 <= 50000000 := by have := Hcn.out; simp only [cM] at this; omega
    go_wp2
    have hz' := hz.out
    have e2 : z + 1 + 1 = z + 2 := by omega
    have e3 : z + 1 + 1 + 1 = z + 3 := by omega
    have e4 : z + 1 + 1 + 1 + 1 = z + 4 := by omega
    have hcs : Cel.cs (mM ⟨xr, xw, xe, xl, xA, xc, xi⟩ z) = Cel.cs (⟨z, z + 1, z + 1 + 1, z + 1 + 1 + 1, xA, xc, xi⟩ : MC) := by
     simp only [Cel.cs, mM, Qbi, e2, show z + 2 + 1 = z + 3 by omega]
    have hsb' : makP w1 (mM ⟨xr, xw, xe, xl, xA, xc, xi⟩ z) (fp n) := by
     rw [e4] at hsb
     exact hsb
    have O3 := HO2.out.turn Qap n (by rw [List.length_set]; have := Hhl.out; omega) (mM ⟨xr, xw, xe, xl, xA, xc, xi⟩ z) (by rw [List.getElem_set_self]; exact hcs) ko hsb'
    rw [List.set_set, ← Hsu.out] at O3
    refine ⟨⟨n + 1, z + 1 + 1 + 1 + 1 + (xi.length : Int) * 2, by go_num, rfl, by omega, by omega, ?_, ?_, ?_, O3⟩, by simp [intOf]; omega⟩
    . have := Hcn.out; simp only [cM] at this; omega
    . show _ = _; rw [Hsn.out, hz']; simp only [cM]; omega
    . exact ((((hoff.out.set (.inl rfl) _ _).set (.inl rfl) _ _).set (.inl rfl) _ _).set (.inl rfl) _ _).trans (ko.mono (fun x hx => .inr ⟨n, hx⟩))
  . obtain rfl : n = l.length := by omega
    go_wp2
    go_ret
    have e := hz.out
    rw [Qb4 cM l _ (Nat.le_refl _)] at e
    have hh := hown.out
    rw [Qds mM cM l k _ (Nat.le_refl _)] at hh
    subst e
    exact ⟨rfl, hoff.out, hh⟩
theorem Qed (A : Option Addr) (cap : Nat) (l : List MC) (k : Int) (hk : 1 <= k) (hk' : k <= 50000000) (hc : Qae cM l <= 50000000) (hl : l.length <= 1048576) (hs : ∀ x ∈ l, x.ms.length <= 1048576) (w : World) (hA : At w A (marked mM cM l k)) (hE : Each w (marked mM cM l k)) :
 Calls Tryz.prog 96 #[.slice A l.length cap, .int .i64 k] w fun e w' => e = .returned (.int .i64 (k + (Qae cM l : Int))) /\ Below w.heap.size w w' := by
 have HA := hidP hA
 have HE := hidP hE
 have Hs := hidP hs
 have Hc := hidP hc
 clear hA hE hs hc
 have HML := hidP (Qbd mM cM l k)
 go_enter Tryz.func96, Tryz.ntmps96
 go_wp2
 go_loopw [1, 5] (fun kk i w' => ∃ (n : Nat) (z : Int), i = .int .i64 (n : Int) /\ kk = .int .i64 z /\ n <= l.length /\ 1 <= z /\ z <= 100000000 /\ Hid (z = k + (Qae cM (l.take n) : Int)) /\ Below w.heap.size w w') (fun _ i _ => l.length - (intOf i).toNat)
 case atStart => exact ⟨0, k, rfl, rfl, by omega, hk, by omega, by simp [Hid, Qae], Below.refl _ _⟩
 case round =>
  obtain ⟨n, z, rfl, rfl, hn, hz1, hz2, hz, hbl⟩ := hrel
  by_cases hlt : n < l.length
  . have hml := HML.out
    obtain ⟨b, o, rfl, hbs, hin⟩ : ∃ b o, A = some ⟨b, o, none⟩ /\ b < w.heap.size /\ In w b o (marked mM cM l k) := by
     rcases HA.out with h | h
     . rw [h] at hml; simp at hml; omega
     . exact h
    have hmn : n < (marked mM cM l k).length := by omega
    have hge := Qcw mM cM l n hlt k hmn
    rw [← hz.out] at hge
    obtain ⟨c0, c1, c2, c3, c4⟩ := (hin.below hbs hbl).getMC n hmn
    have hat := (HE.out _ (List.getElem_mem hmn)).below hbl
    rw [hge] at c0 c1 c2 c3 c4 hat
    have hit := Hs.out _ (List.getElem_mem hlt)
    have hcn : Qae cM (l.take n) + cM l[n] <= 50000000 := by rw [← Qas cM l n hlt]; exact Nat.le_trans (Qcb cM l (n + 1)) Hc.out
    have Hsn := hidP (Qas cM l n hlt)
    generalize hx : l[n] = x at c0 c1 c2 c3 c4 hit hcn hat Hsn
    obtain ⟨xr, xw, xe, xl, xA, xc, xi⟩ := x
    simp only [mM, Qbi] at c0 c1 c2 c3 c4 hit hat
    have e3 : z + 3 = z + 1 + 1 + 1 := by omega
    have e2 : z + 2 = z + 1 + 1 := by omega
    rw [e3] at c3
    rw [e2] at c2
    clear e2 e3
    have HAt : Hid (xi.length = 0 ∨ ∃ b o, xA = some ⟨b, o, none⟩ /\ b < wr.heap.size /\ In wr b o (Qbb xi.length (z + 1 + 1 + 1 + 1))) := by
     have e2 : z + 1 + 1 + 1 + 1 = z + 4 := by omega
     rw [e2]
     rcases hat with h | h
     . exact .inl (by have := congrArg List.length h; simpa [Qbi] using this)
     . exact .inr h
    have Hcn := hidP hcn
    have hzc : z + 4 <= 100000000 := by
     have h3 := hz.out; have h4 := Hcn.out; simp only [cM] at h4; omega
    have hlim : xi.length * 2 + 4 <= 50000000 := by have := Hcn.out; simp only [cM] at this; omega
    clear hml hge hx hcn hat
    have hneg : ¬ z + 1 + 1 + 1 + 1 + (xi.length : Int) * 2 < 0 := by omega
    go_wp2_with fail
    refine (Qg7 xA xc xi.length (z + 1 + 1 + 1 + 1) (by omega) (by omega) (by omega) _ HAt.out).mono ?_
    rintro e w1 ⟨rfl, rfl⟩
    go_wp2
    have hz' := hz.out
    refine ⟨⟨n + 1, z + 1 + 1 + 1 + 1 + (xi.length : Int) * 2, by go_num, rfl, by omega, by omega, ?_, ?_, hbl⟩, by simp [intOf]; omega⟩
    . have := Hcn.out; simp only [cM] at this; omega
    . show _ = _; rw [Hsn.out, hz']; simp only [cM]; omega
  . obtain rfl : n = l.length := by omega
    go_wp2
    go_ret
    have e := hz.out
    rw [Qb4 cM l _ (Nat.le_refl _)] at e
    subst e
    exact ⟨rfl, hbl⟩
end Go.Proofs.YtmdaammalacifaaGreat.Gen
