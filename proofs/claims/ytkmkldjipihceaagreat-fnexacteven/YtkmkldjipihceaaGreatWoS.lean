/-
  The specification's WorldOk. No condition but the sizes that every text and number has.
-/
import Derived.Test.YtkmkldjipihceaaGreatPeI5
set_option linter.unusedVariables false
set_option linter.unusedSimpArgs false
set_option maxRecDepth 100000
set_option maxHeartbeats 8000000
set_option maxRecDepth 100000
set_option maxHeartbeats 8000000
namespace Go.Proofs.YtkmkldjipihceaaGreat.Gen
open ChangeShapes WideShapes ChangeAt RowKit Joins Deep Base
def Qbb (p : WC) : Bool := decide ((p.ss.length : Int) = 4) && decide ((p.fs.length : Int) = 4) && decide ((p.hs.length : Int) <= 300) && (Qc6 0 p.ss && p.fs.all idxB) && p.hs.all Qbp
theorem Qhi (p : WC) : Qas p = (setB p.ro p.wi p.le p.ke && inB p.size 1 5 && decide ((p.ns.length : Int) = p.size) && decide ((p.ms.length : Int) <= 40) && Qbb p && decide ((p.ds.length : Int) <= 300) && Qbt (fun x => okQ p.ro p.wi p.le p.ke p.size x) 0 p.ns && p.ms.all (rpB p.size) && p.ds.all okCo) := by
 unfold Qas Qcj Qcw Qbb
 ac_rfl
theorem Qfw (p : WC) (h : WAsk p) (w : World) (hp : WAt w p) :
 Calls Tryz.prog 40 #[.agg (Qal p)] w fun e w' => e = .returned (.bool (Qbb p)) /\ Below w.heap.size w w' := by
 have HP := hidP hp
 have HK := hidP h
 clear hp h
 have P0 := hidP (Blk.new w 39 (Qal p))
 have B0 := hidP (show Below w.heap.size w (w.alloc (.cells (Qal p) 39)) from Qab (Below.refl _ _) _)
 have x7 := P0.out.cell (i := 7) (v := .slice p.sA p.ss.length p.sc) rfl
 have x8 := P0.out.cell (i := 8) (v := .slice p.fA p.fs.length p.fc) rfl
 have x9 := P0.out.cell (i := 9) (v := .slice p.hA p.hs.length p.hc) rfl
 have q0 := P0.out.lt
 go_enter Tryz.func40, Tryz.ntmps40
 by_cases h1 : (p.ss.length : Int) = 4
 case neg =>
  have hf : Hid (Qbb p = false) := by show _ = _; unfold Qbb; rw [decide_eq_false h1]; rfl
  go_wp2
  go_ret
  exact ⟨by rw [hf.out]; rfl, B0.out⟩
 by_cases h2 : (p.fs.length : Int) = 4
 case neg =>
  have hf : Hid (Qbb p = false) := by show _ = _; unfold Qbb; rw [decide_eq_false h2]; simp
  go_wp2
  go_ret
  exact ⟨by rw [hf.out]; rfl, B0.out⟩
 by_cases h3 : (p.hs.length : Int) <= 300
 case neg =>
  have hf : Hid (Qbb p = false) := by show _ = _; unfold Qbb; rw [decide_eq_false h3]; simp
  go_wp2
  go_ret
  exact ⟨by rw [hf.out]; rfl, B0.out⟩
 have HF : Hid (Qbb p = ((Qc6 0 p.ss && p.fs.all idxB) && p.hs.all Qbp)) := by show _ = _; unfold Qbb; rw [decide_eq_true h1, decide_eq_true h2, decide_eq_true h3]; simp
 have l4 := hidP (show p.ss.length = 4 by omega)
 have f4 := hidP (show p.fs.length = 4 by omega)
 go_wp2
 clear x7 x8 x9 q0 h1 h2 h3
 go_loopw [3] (fun i W => ∃ n : Nat, i = .int .i64 (n : Int) /\ n <= 4 /\ Hid (Below w.heap.size w W) /\ Hid (Blk W w.heap.size 39 (Qal p)) /\ Hid ((Qc6 0 p.ss && p.fs.all idxB) = (Qc6 (n : Int) (p.ss.drop n) && (p.fs.drop n).all idxB))) (fun i _ => 4 - (intOf i).toNat)
 case atStart => exact ⟨0, rfl, by omega, B0, P0, rfl⟩
 case round =>
  clear B0 P0
  obtain ⟨n, rfl, hn, hB, hX, hD⟩ := hrel
  by_cases hlt : n < 4
  . have hlts : n < p.ss.length := by have := l4.out; omega
    have hltf : n < p.fs.length := by have := f4.out; omega
    obtain ⟨bs, os, hEs, hbs, hIs⟩ : ∃ b o, p.sA = some ⟨b, o, none⟩ /\ b < w.heap.size /\ In w b o p.ss := by
     rcases HP.out.sa with h | h
     . rw [h] at hlts; simp at hlts
     . exact h
    have hAs := hidP hEs
    clear hEs
    obtain ⟨bf, of, hEf, hbf, hIf⟩ : ∃ b o, p.fA = some ⟨b, o, none⟩ /\ b < w.heap.size /\ In w b o p.fs := by
     rcases HP.out.fa with h | h
     . rw [h] at hltf; simp at hltf
     . exact h
    have hAf := hidP hEf
    clear hEf
    have FS : Hid (∀ W : World, Below w.heap.size w W -> _) := hidP (fun W (g : Below w.heap.size w W) => And.intro ((hIs.below hbs g).getCo n hlts) ((hIf.below hbf g).getInt n hltf))
    have hDD := hidP (hD.out.trans (by rw [Qgs p.ss n hlts, Qb2 idxB p.fs n hltf]))
    have hi0 : (0 : Int) <= (n : Int) := by omega
    have hi1 : (n : Int) < (p.ss.length : Int) := by omega
    have hi2 : (n : Int) < (p.fs.length : Int) := by omega
    have hi4 : (n : Int) < 4 := by omega
    have hsf := HK.out.s _ (List.getElem_mem hlts)
    have x7 := hX.out.cell (i := 7) (v := .slice p.sA p.ss.length p.sc) rfl
    have x8 := hX.out.cell (i := 8) (v := .slice p.fA p.fs.length p.fc) rfl
    rw [hAs.out] at x7
    rw [hAf.out] at x8
    obtain ⟨⟨c0, c1, c2, c3, c4, c5, c6, c7⟩, d0⟩ := FS.out _ hB.out
    have q0 := hX.out.lt
    have EC : Hid (∀ W : World, Calls Tryz.prog 43 #[.agg (Qan p.ss[n].who p.ss[n].seq p.ss[n].op p.ss[n].a p.ss[n].b p.ss[n].c p.ss[n].key p.ss[n].text)] W fun e w' => e = .returned (.bool (okCo p.ss[n])) /\ Below W.heap.size W w') := fun W => CmdOk.spec_any _ _ _ _ _ _ _ _ hsf.1 hsf.2 W
    have EI : Hid (∀ W : World, Calls Tryz.prog 32 (Qa4 p.fs[n] 0 300) W fun e w' => e = .returned (.bool (idxB p.fs[n])) /\ w' = W) := fun W => in_any _ _ _ W
    have hz : ∀ W : World, (Op.equalIn 10000 115 (.agg (Qan p.ss[n].who p.ss[n].seq p.ss[n].op p.ss[n].a p.ss[n].b p.ss[n].c p.ss[n].key p.ss[n].text)) (.agg Qc5)).run Tryz.prog W = .ok (Qd1 p.ss[n]) W := fun W => eqCz _ W
    have hsd : saidB (n : Int) p.ss[n] = (Qd1 p.ss[n] || (okCo p.ss[n] && decide (p.ss[n].who = (n : Int)))) := rfl
    rw [hsd] at hDD
    clear hD hsd hsf
    generalize Qd1 p.ss[n] = zb at hz hDD
    generalize okCo p.ss[n] = cb at EC hDD
    generalize idxB p.fs[n] = ib at EI hDD
    cases zb
    . go_wp2_with fail
      refine (EC.out _).mono ?_
      rintro e w1 ⟨rfl, g1⟩
      replace hB := hidP (via0 g1 hB.out)
      replace hX := hidP (hX.out.below g1 hX.out.lt)
      clear g1 x7 x8 c0 c1 c2 c3 c4 c5 c6 c7 d0 q0 hz
      have x7 := hX.out.cell (i := 7) (v := .slice p.sA p.ss.length p.sc) rfl
      have x8 := hX.out.cell (i := 8) (v := .slice p.fA p.fs.length p.fc) rfl
      rw [hAs.out] at x7
      rw [hAf.out] at x8
      obtain ⟨⟨c0, c1, c2, c3, c4, c5, c6, c7⟩, d0⟩ := FS.out _ hB.out
      have q0 := hX.out.lt
      cases cb
      . have hf : Hid (Qbb p = false) := by show _ = _; rw [HF.out, hDD.out]; simp
        go_wp2
        go_ret
        exact ⟨by rw [hf.out]; rfl, hB.out⟩
      by_cases hw : p.ss[n].who = (n : Int)
      case neg =>
       have hf : Hid (Qbb p = false) := by show _ = _; rw [HF.out, hDD.out]; simp [hw]
       go_wp2
       go_ret
       exact ⟨by rw [hf.out]; rfl, hB.out⟩
      rw [hw] at c0
      have hD2 := hidP (show (Qc6 0 p.ss && p.fs.all idxB) = (Qc6 ((n + 1 : Nat) : Int) (p.ss.drop (n + 1)) && (ib && (p.fs.drop (n + 1)).all idxB)) by rw [hDD.out]; simp [hw])
      clear hDD hw
      go_wp2_with fail
      refine (EI.out _).mono ?_
      rintro e w2 ⟨rfl, hw2⟩
      subst w2
      cases ib
      . have hf : Hid (Qbb p = false) := by show _ = _; rw [HF.out, hD2.out]; simp
        go_wp2
        go_ret
        exact ⟨by rw [hf.out]; rfl, hB.out⟩
      go_wp2
      exact ⟨⟨n + 1, by go_num, by omega, hB, hX, hidP (by have := hD2.out; simpa using this)⟩, by simp [intOf]; omega⟩
    . have hD2 := hidP (show (Qc6 0 p.ss && p.fs.all idxB) = (Qc6 ((n + 1 : Nat) : Int) (p.ss.drop (n + 1)) && (ib && (p.fs.drop (n + 1)).all idxB)) by rw [hDD.out]; simp)
      clear hDD
      go_wp2_with fail
      refine (EI.out _).mono ?_
      rintro e w2 ⟨rfl, hw2⟩
      subst w2
      cases ib
      . have hf : Hid (Qbb p = false) := by show _ = _; rw [HF.out, hD2.out]; simp
        go_wp2
        go_ret
        exact ⟨by rw [hf.out]; rfl, hB.out⟩
      go_wp2
      exact ⟨⟨n + 1, by go_num, by omega, hB, hX, hidP (by have := hD2.out; simpa using this)⟩, by simp [intOf]; omega⟩
  . have hn4 := hidP (show n = 4 by omega)
    have hS := hidP (show (Qc6 0 p.ss && p.fs.all idxB) = true by rw [hD.out, List.drop_of_length_le (by have := l4.out; have := hn4.out; omega), List.drop_of_length_le (by have := f4.out; have := hn4.out; omega)]; rfl)
    replace HF := hidP (show Qbb p = p.hs.all Qbp by rw [HF.out, hS.out]; simp)
    clear hD hS
    have hhl := HK.out.f.hl
    go_wp2
    clear hlt hn
    go_loopw [5] (fun i W => ∃ n : Nat, i = .int .i64 (n : Int) /\ n <= p.hs.length /\ Hid (Below w.heap.size w W) /\ Hid (Blk W w.heap.size 39 (Qal p)) /\ Hid (p.hs.all Qbp = (p.hs.drop n).all Qbp)) (fun i _ => p.hs.length - (intOf i).toNat)
    case atStart => exact ⟨0, rfl, by omega, hB, hX, rfl⟩
    case round =>
     clear hB hX
     obtain ⟨n, rfl, hn, hB, hX, hD⟩ := hrel
     have x9 := hX.out.cell (i := 9) (v := .slice p.hA p.hs.length p.hc) rfl
     have q0 := hX.out.lt
     by_cases hlth : n < p.hs.length
     . obtain ⟨bh, oh, hEh, hbh, hIh⟩ : ∃ b o, p.hA = some ⟨b, o, none⟩ /\ b < w.heap.size /\ In w b o p.hs := by
        rcases HP.out.ha with h | h
        . rw [h] at hlth; simp at hlth
        . exact h
       have hAh := hidP hEh
       clear hEh
       have hDD := hidP (hD.out.trans (Qb2 Qbp p.hs n hlth))
       have hi0 : (0 : Int) <= (n : Int) := by omega
       have hi1 : (n : Int) < (p.hs.length : Int) := by omega
       have hhf := HK.out.h _ (List.getElem_mem hlth)
       rw [hAh.out] at x9
       obtain ⟨c0, c1, c2, c3, c4, c5, c6, c7⟩ := (hIh.below hbh hB.out).getHe n hlth
       have E1 : Hid (∀ W : World, Calls Tryz.prog 32 (Qa4 p.hs[n].who 0 3) W fun e w' => e = .returned (.bool (inB p.hs[n].who 0 3)) /\ w' = W) := fun W => in_any _ _ _ W
       have E2 : Hid (∀ W : World, Calls Tryz.prog 32 (Qa4 p.hs[n].seq 1 100000) W fun e w' => e = .returned (.bool (inB p.hs[n].seq 1 100000)) /\ w' = W) := fun W => in_any _ _ _ W
       have E3 : Hid (∀ W : World, Calls Tryz.prog 32 (Qa4 p.hs[n].frm 0 300) W fun e w' => e = .returned (.bool (inB p.hs[n].frm 0 300)) /\ w' = W) := fun W => in_any _ _ _ W
       have E4 : Hid (∀ W : World, Calls Tryz.prog 32 (Qa4 p.hs[n].at_ 0 300) W fun e w' => e = .returned (.bool (inB p.hs[n].at_ 0 300)) /\ w' = W) := fun W => in_any _ _ _ W
       have E5 : Hid (∀ W : World, Calls Tryz.prog 77 #[.agg (Qcr p.hs[n].code p.hs[n].n p.hs[n].key p.hs[n].text)] W fun e w' => e = .returned (.bool (ansB p.hs[n].code p.hs[n].n p.hs[n].key p.hs[n].text)) /\ Below W.heap.size W w') := fun W => Qc8 _ _ _ _ hhf.1 hhf.2 W
       have hhd : Qbp p.hs[n] = (inB p.hs[n].who 0 3 && inB p.hs[n].seq 1 100000 && inB p.hs[n].frm 0 300 && inB p.hs[n].at_ 0 300 && ansB p.hs[n].code p.hs[n].n p.hs[n].key p.hs[n].text) := rfl
       rw [hhd] at hDD
       clear hD hhd hhf
       generalize inB p.hs[n].who 0 3 = b1 at E1 hDD
       generalize inB p.hs[n].seq 1 100000 = b2 at E2 hDD
       generalize inB p.hs[n].frm 0 300 = b3 at E3 hDD
       generalize inB p.hs[n].at_ 0 300 = b4 at E4 hDD
       generalize ansB p.hs[n].code p.hs[n].n p.hs[n].key p.hs[n].text = b5 at E5 hDD
       have hBA := hidP (show ∀ V : Obj, Below w.heap.size w (wr.alloc V) from fun V => Qab hB.out V)
       go_wp2_with fail
       refine (E1.out _).mono ?_
       rintro e w1 ⟨rfl, hw⟩
       subst w1
       cases b1
       . have hf : Hid (Qbb p = false) := by show _ = _; rw [HF.out, hDD.out]; simp
         go_wp2
         go_ret
         exact ⟨by rw [hf.out]; rfl, hBA.out _⟩
       go_wp2_with fail
       refine (E2.out _).mono ?_
       rintro e w2 ⟨rfl, hw⟩
       subst w2
       cases b2
       . have hf : Hid (Qbb p = false) := by show _ = _; rw [HF.out, hDD.out]; simp
         go_wp2
         go_ret
         exact ⟨by rw [hf.out]; rfl, hBA.out _⟩
       go_wp2_with fail
       refine (E3.out _).mono ?_
       rintro e w3 ⟨rfl, hw⟩
       subst w3
       cases b3
       . have hf : Hid (Qbb p = false) := by show _ = _; rw [HF.out, hDD.out]; simp
         go_wp2
         go_ret
         exact ⟨by rw [hf.out]; rfl, hBA.out _⟩
       go_wp2_with fail
       refine (E4.out _).mono ?_
       rintro e w4 ⟨rfl, hw⟩
       subst w4
       cases b4
       . have hf : Hid (Qbb p = false) := by show _ = _; rw [HF.out, hDD.out]; simp
         go_wp2
         go_ret
         exact ⟨by rw [hf.out]; rfl, hBA.out _⟩
       go_wp2_with fail
       refine (E5.out _).mono ?_
       rintro e w5 ⟨rfl, g5⟩
       cases b5
       . have hf : Hid (Qbb p = false) := by show _ = _; rw [HF.out, hDD.out]; simp
         go_wp2
         go_ret
         exact ⟨by rw [hf.out]; rfl, via0 g5 (hBA.out _)⟩
       go_wp2
       exact ⟨⟨n + 1, by go_num, by omega, via0 g5 (hBA.out _), (hX.out.alloc _).below g5 (hX.out.alloc _).lt, hidP (by have := hDD.out; simpa using this)⟩, by simp [intOf]; omega⟩
     . have hf : Hid (Qbb p = true) := by show _ = _; rw [HF.out, hD.out, List.drop_of_length_le (by omega)]; rfl
       go_wp2
       go_ret
       exact ⟨by rw [hf.out]; rfl, hB.out⟩
theorem Qec (p : WC) (h : WAsk p) (w : World) (hp : WAt w p) :
 Calls Tryz.prog 17 #[.agg (Qal p)] w fun e w' => e = .returned (.bool (Qas p)) /\ Below w.heap.size w w' := by
 have HP := hidP hp
 have HK := hidP h
 have E1 : Hid (∀ W : World, Calls Tryz.prog 39 #[.agg (Qag p.ro p.wi p.le p.ke)] W fun e w' => e = .returned (.bool (setB p.ro p.wi p.le p.ke)) /\ Below W.heap.size W w') := fun W => Qde _ _ _ _ W
 have E2 : Hid (∀ W : World, Calls Tryz.prog 32 (Qa4 p.size 1 5) W fun e w' => e = .returned (.bool (inB p.size 1 5)) /\ w' = W) := fun W => in_any _ _ _ W
 have E3 : Hid (∀ W : World, Below w.heap.size w W -> Calls Tryz.prog 40 #[.agg (Qal p)] W fun e w' => e = .returned (.bool (Qbb p)) /\ Below W.heap.size W w') := fun W g => Qfw p h W (hp.below g)
 have HF : Hid (Qas p = _) := hidP (Qhi p)
 clear hp h
 generalize setB p.ro p.wi p.le p.ke = b1 at E1 HF
 generalize inB p.size 1 5 = b2 at E2 HF
 generalize Qbb p = b3 at E3 HF
 have P0 := hidP (Blk.new w 39 (Qal p))
 have B0 := hidP (show Below w.heap.size w (w.alloc (.cells (Qal p) 39)) from Qab (Below.refl _ _) _)
 have x0 := P0.out.cell (i := 0) (v := .int .i64 p.ro) rfl
 have x1 := P0.out.cell (i := 1) (v := .int .i64 p.wi) rfl
 have x2 := P0.out.cell (i := 2) (v := .int .i64 p.le) rfl
 have x3 := P0.out.cell (i := 3) (v := .int .i64 p.ke) rfl
 have x4 := P0.out.cell (i := 4) (v := .int .i64 p.size) rfl
 have x5 := P0.out.cell (i := 5) (v := .slice p.nA p.ns.length p.nc) rfl
 have x6 := P0.out.cell (i := 6) (v := .slice p.mA p.ms.length p.mc) rfl
 have x7 := P0.out.cell (i := 7) (v := .slice p.sA p.ss.length p.sc) rfl
 have x8 := P0.out.cell (i := 8) (v := .slice p.fA p.fs.length p.fc) rfl
 have x9 := P0.out.cell (i := 9) (v := .slice p.hA p.hs.length p.hc) rfl
 have x10 := P0.out.cell (i := 10) (v := .slice p.dA p.ds.length p.dc) rfl
 have q0 := P0.out.lt
 go_enter Tryz.func17, Tryz.ntmps17
 go_wp2_with fail
 refine (E1.out _).mono ?_
 rintro e w1 ⟨rfl, g⟩
 replace B0 := hidP (via0 g B0.out)
 replace P0 := hidP (P0.out.below g P0.out.lt)
 clear g q0 x0 x1 x2 x3 x4 x5 x6 x7 x8 x9 x10
 have x0 := P0.out.cell (i := 0) (v := .int .i64 p.ro) rfl
 have x1 := P0.out.cell (i := 1) (v := .int .i64 p.wi) rfl
 have x2 := P0.out.cell (i := 2) (v := .int .i64 p.le) rfl
 have x3 := P0.out.cell (i := 3) (v := .int .i64 p.ke) rfl
 have x4 := P0.out.cell (i := 4) (v := .int .i64 p.size) rfl
 have x5 := P0.out.cell (i := 5) (v := .slice p.nA p.ns.length p.nc) rfl
 have x6 := P0.out.cell (i := 6) (v := .slice p.mA p.ms.length p.mc) rfl
 have x7 := P0.out.cell (i := 7) (v := .slice p.sA p.ss.length p.sc) rfl
 have x8 := P0.out.cell (i := 8) (v := .slice p.fA p.fs.length p.fc) rfl
 have x9 := P0.out.cell (i := 9) (v := .slice p.hA p.hs.length p.hc) rfl
 have x10 := P0.out.cell (i := 10) (v := .slice p.dA p.ds.length p.dc) rfl
 have q0 := P0.out.lt
 cases b1
 . have hf : Hid (Qas p = false) := by show _ = _; rw [HF.out]; simp
   go_wp2
   go_ret
   exact ⟨by rw [hf.out]; rfl, B0.out⟩
 go_wp2_with fail
 refine (E2.out _).mono ?_
 rintro e w2 ⟨rfl, hw2⟩
 subst w2
 cases b2
 . have hf : Hid (Qas p = false) := by show _ = _; rw [HF.out]; simp
   go_wp2
   go_ret
   exact ⟨by rw [hf.out]; rfl, B0.out⟩
 by_cases h1 : (p.ns.length : Int) = p.size
 case neg =>
  have hf : Hid (Qas p = false) := by show _ = _; rw [HF.out, decide_eq_false h1]; simp
  go_wp2
  go_ret
  exact ⟨by rw [hf.out]; rfl, B0.out⟩
 by_cases h2 : (p.ms.length : Int) <= 40
 case neg =>
  have hf : Hid (Qas p = false) := by show _ = _; rw [HF.out, decide_eq_false h2]; simp
  go_wp2
  go_ret
  exact ⟨by rw [hf.out]; rfl, B0.out⟩
 go_wp2_with fail
 refine (E3.out _ B0.out).mono ?_
 rintro e w3 ⟨rfl, g⟩
 replace B0 := hidP (via0 g B0.out)
 replace P0 := hidP (P0.out.below g P0.out.lt)
 clear g q0 x0 x1 x2 x3 x4 x5 x6 x7 x8 x9 x10
 have x0 := P0.out.cell (i := 0) (v := .int .i64 p.ro) rfl
 have x1 := P0.out.cell (i := 1) (v := .int .i64 p.wi) rfl
 have x2 := P0.out.cell (i := 2) (v := .int .i64 p.le) rfl
 have x3 := P0.out.cell (i := 3) (v := .int .i64 p.ke) rfl
 have x4 := P0.out.cell (i := 4) (v := .int .i64 p.size) rfl
 have x5 := P0.out.cell (i := 5) (v := .slice p.nA p.ns.length p.nc) rfl
 have x6 := P0.out.cell (i := 6) (v := .slice p.mA p.ms.length p.mc) rfl
 have x7 := P0.out.cell (i := 7) (v := .slice p.sA p.ss.length p.sc) rfl
 have x8 := P0.out.cell (i := 8) (v := .slice p.fA p.fs.length p.fc) rfl
 have x9 := P0.out.cell (i := 9) (v := .slice p.hA p.hs.length p.hc) rfl
 have x10 := P0.out.cell (i := 10) (v := .slice p.dA p.ds.length p.dc) rfl
 have q0 := P0.out.lt
 cases b3
 . have hf : Hid (Qas p = false) := by show _ = _; rw [HF.out]; simp
   go_wp2
   go_ret
   exact ⟨by rw [hf.out]; rfl, B0.out⟩
 by_cases h3 : (p.ds.length : Int) <= 300
 case neg =>
  have hf : Hid (Qas p = false) := by show _ = _; rw [HF.out, decide_eq_false h3]; simp
  go_wp2
  go_ret
  exact ⟨by rw [hf.out]; rfl, B0.out⟩
 replace HF := hidP (show Qas p = (Qbt (fun x => okQ p.ro p.wi p.le p.ke p.size x) 0 p.ns && p.ms.all (rpB p.size) && p.ds.all okCo) by rw [HF.out, decide_eq_true h1, decide_eq_true h2, decide_eq_true h3]; simp)
 have H1 := hidP h1
 have hln := HK.out.f.nl
 have hlm := HK.out.f.ml
 have hld := HK.out.f.dl
 go_wp2
 clear q0 h1 h2 h3 x0 x1 x2 x3 x4 x5 x6 x7 x8 x9 x10
 go_loopw [3] (fun i W => ∃ n : Nat, i = .int .i64 (n : Int) /\ n <= p.ns.length /\ Hid (Below w.heap.size w W) /\ Hid (Blk W w.heap.size 39 (Qal p)) /\ Hid (Qbt (fun x => okQ p.ro p.wi p.le p.ke p.size x) 0 p.ns = Qbt (fun x => okQ p.ro p.wi p.le p.ke p.size x) (n : Int) (p.ns.drop n))) (fun i _ => p.ns.length - (intOf i).toNat)
 case atStart => exact ⟨0, rfl, by omega, B0, P0, rfl⟩
 case round =>
  clear B0 P0
  obtain ⟨n, rfl, hn, hB, hX, hD⟩ := hrel
  have x0 := hX.out.cell (i := 0) (v := .int .i64 p.ro) rfl
  have x1 := hX.out.cell (i := 1) (v := .int .i64 p.wi) rfl
  have x2 := hX.out.cell (i := 2) (v := .int .i64 p.le) rfl
  have x3 := hX.out.cell (i := 3) (v := .int .i64 p.ke) rfl
  have x4 := hX.out.cell (i := 4) (v := .int .i64 p.size) rfl
  have x5 := hX.out.cell (i := 5) (v := .slice p.nA p.ns.length p.nc) rfl
  have q0 := hX.out.lt
  by_cases hltn : n < p.ns.length
  . obtain ⟨bn, on, hEn, hbn, hIn⟩ : ∃ b o, p.nA = some ⟨b, o, none⟩ /\ b < w.heap.size /\ In w b o p.ns := by
     rcases HP.out.na with h | h
     . rw [h] at hltn; simp at hltn
     . exact h
    have hAn := hidP hEn
    clear hEn
    have FS : Hid (∀ W : World, Below w.heap.size w W -> W.rangeAt bn (on + n * 26) (Cel.cs p.ns[n])) := fun W g => (hIn.below hbn g).el n hltn
    have hDD := hidP (hD.out.trans (Qfm _ p.ns n hltn))
    have hi0 : (0 : Int) <= (n : Int) := by omega
    have hi1 : (n : Int) < (p.ns.length : Int) := by omega
    have hi2 : (n : Int) < p.size := by have := H1.out; omega
    have EP : Hid (∀ W : World, Below w.heap.size w W -> Calls Tryz.prog 41 #[.agg (Qag p.ro p.wi p.le p.ke), .agg (Cel.cs p.ns[n]).toArray, .int .i64 p.size] W fun e w' => e = .returned (.bool (okQ p.ro p.wi p.le p.ke p.size p.ns[n])) /\ Below W.heap.size W w') := fun W g => specOk_any (HK.out.n _ (List.getElem_mem hltn)) _ _ _ _ _ HK.out.z W ((HP.out.ne _ (List.getElem_mem hltn)).below g)
    have SS : Hid (∀ W : World, Below wr.heap.size wr W -> (fun (V : World) => (V.cell? ⟨w.heap.size, 0, none⟩ = some (.int .i64 p.ro) /\ V.cell? ⟨w.heap.size, 1, none⟩ = some (.int .i64 p.wi) /\ V.cell? ⟨w.heap.size, 2, none⟩ = some (.int .i64 p.le) /\ V.cell? ⟨w.heap.size, 3, none⟩ = some (.int .i64 p.ke) /\ V.cell? ⟨w.heap.size, 4, none⟩ = some (.int .i64 p.size) /\ V.cell? ⟨w.heap.size, 5, none⟩ = some (.slice (some ⟨bn, on, none⟩) p.ns.length p.nc) /\ V.cell? ⟨bn, on + n * 26, none⟩ = some (.int .i64 p.ns[n].id)) /\ V.rangeAt bn (on + n * 26) (Cel.cs p.ns[n])) W) := fun W g => by
     have hx := hX.out.below g hX.out.lt
     have hr := FS.out W (via0 g hB.out)
     refine ⟨⟨hx.cell rfl, hx.cell rfl, hx.cell rfl, hx.cell rfl, hx.cell rfl, ?_, ?_⟩, hr⟩
     . rw [← hAn.out]; exact hx.cell rfl
     . exact hr 0 (.int .i64 p.ns[n].id) rfl
    rw [hAn.out] at x5
    have c0 : wr.cell? ⟨bn, on + n * 26, none⟩ = some (.int .i64 p.ns[n].id) := FS.out wr hB.out 0 _ rfl
    clear hD
    generalize okQ p.ro p.wi p.le p.ke p.size p.ns[n] = ob at EP hDD
    by_cases hid : p.ns[n].id = (n : Int)
    case neg =>
     have hbq : (p.ns[n].id != (n : Int)) = true := bne_iff_ne.2 hid
     have hf : Hid (Qas p = false) := by show _ = _; rw [HF.out, hDD.out, decide_eq_false hid]; simp
     go_wp2_with fail
     refine wp_region_noPanic ?_
     refine wp_region_held_drew (S := (fun (V : World) => (V.cell? ⟨w.heap.size, 0, none⟩ = some (.int .i64 p.ro) /\ V.cell? ⟨w.heap.size, 1, none⟩ = some (.int .i64 p.wi) /\ V.cell? ⟨w.heap.size, 2, none⟩ = some (.int .i64 p.le) /\ V.cell? ⟨w.heap.size, 3, none⟩ = some (.int .i64 p.ke) /\ V.cell? ⟨w.heap.size, 4, none⟩ = some (.int .i64 p.size) /\ V.cell? ⟨w.heap.size, 5, none⟩ = some (.slice (some ⟨bn, on, none⟩) p.ns.length p.nc) /\ V.cell? ⟨bn, on + n * 26, none⟩ = some (.int .i64 p.ns[n].id)) /\ V.rangeAt bn (on + n * 26) (Cel.cs p.ns[n]))) (by kernel_rfl) ?_ (fun hH => ?_)
     . exact SS.out _ (Below.drew (Below.refl _ _))
     refine ztk [0,1,2,3,4,5,6,7,8,9,10,11,12,13,14,15,16,17,18,19,20] ?_; repeat ((first | refine ztn (h := ?_) | refine ztu (h := ?_)); try simp only [zX,zY])
     refine zte ?_
     refine zdn ?_
     go_wp2
     go_ret
     exact ⟨by rw [hf.out]; rfl, hB.out.drew⟩
    have hbq : (p.ns[n].id != (n : Int)) = false := by simp [hid]
    replace hDD := hidP (hDD.out.trans (by rw [decide_eq_true hid]))
    go_wp2_with fail
    refine wp_region_noPanic ?_
    refine wp_region_held_drew (S := (fun (V : World) => (V.cell? ⟨w.heap.size, 0, none⟩ = some (.int .i64 p.ro) /\ V.cell? ⟨w.heap.size, 1, none⟩ = some (.int .i64 p.wi) /\ V.cell? ⟨w.heap.size, 2, none⟩ = some (.int .i64 p.le) /\ V.cell? ⟨w.heap.size, 3, none⟩ = some (.int .i64 p.ke) /\ V.cell? ⟨w.heap.size, 4, none⟩ = some (.int .i64 p.size) /\ V.cell? ⟨w.heap.size, 5, none⟩ = some (.slice (some ⟨bn, on, none⟩) p.ns.length p.nc) /\ V.cell? ⟨bn, on + n * 26, none⟩ = some (.int .i64 p.ns[n].id)) /\ V.rangeAt bn (on + n * 26) (Cel.cs p.ns[n]))) (by kernel_rfl) ?_ (fun hH => ?_)
    . exact SS.out _ (Below.drew (Below.refl _ _))
    refine ztk [0,1,2,3,4,5,6,7,8,9,10,11,12,13,14] ?_; repeat (refine ztn (h := ?_); try simp only [zX,zY])
    refine zte ?_
    refine zt1 15 ?_; refine ztn (hy := fun w' hSw => Qce rfl rfl hSw.2 Tryz.underlying67 Qcu) (h := ?_); try simp only [zX,zY]
    refine zte ?_
    refine ztk [16,17] ?_; repeat (refine ztn (h := ?_); try simp only [zX,zY])
    refine zte ?_
    refine zR1 18 (fun K hK => ?_)
    simp only [zG]
    go_simp
    refine (EP.out _ hB.out.drew).mono ?_; rintro e w6 ⟨rfl, g6⟩; have g7 := via0 g6 (Below.drew (Below.refl _ _)); have BB := hidP (via0 g7 hB.out); have XX := hidP (hX.out.below g7 hX.out.lt)
    refine hK.out _ _ ?_ (fun hH => ?_)
    . exact SS.out _ g7
    clear hK K g6 g7
    try simp only [zX,zY]
    cases ob
    . have hf : Hid (Qas p = false) := by show _ = _; rw [HF.out, hDD.out]; simp
      refine ztk [19,20] ?_; repeat (refine ztn (h := ?_); try simp only [zX,zY])
      refine zte ?_
      refine zdn ?_
      go_wp2
      go_ret
      exact ⟨by rw [hf.out]; rfl, BB.out⟩
    . refine ztk [19,20] ?_; repeat (refine ztn (h := ?_); try simp only [zX,zY])
      refine zte ?_
      refine zdn ?_
      go_wp2
      exact ⟨⟨n + 1, by go_num, by omega, BB, XX, hidP (by have := hDD.out; simpa using this)⟩, by simp [intOf]; omega⟩
  . have hS := hidP (show Qbt (fun x => okQ p.ro p.wi p.le p.ke p.size x) 0 p.ns = true by rw [hD.out, List.drop_of_length_le (by omega)]; rfl)
    replace HF := hidP (show Qas p = (p.ms.all (rpB p.size) && p.ds.all okCo) by rw [HF.out, hS.out]; simp)
    have hge : ¬ (n : Int) < p.size := by have := H1.out; omega
    clear hD hS
    go_wp2
    clear q0 x0 x1 x2 x3 x4 x5 hge
    go_loopw [4] (fun i W => ∃ n : Nat, i = .int .i64 (n : Int) /\ n <= p.ms.length /\ Hid (Below w.heap.size w W) /\ Hid (Blk W w.heap.size 39 (Qal p)) /\ Hid (p.ms.all (rpB p.size) = (p.ms.drop n).all (rpB p.size))) (fun i _ => p.ms.length - (intOf i).toNat)
    case atStart => exact ⟨0, rfl, by omega, hB, hX, rfl⟩
    case round =>
     clear hB hX hn
     obtain ⟨n, rfl, hn, hB, hX, hD⟩ := hrel
     have x4 := hX.out.cell (i := 4) (v := .int .i64 p.size) rfl
     have x6 := hX.out.cell (i := 6) (v := .slice p.mA p.ms.length p.mc) rfl
     have q0 := hX.out.lt
     by_cases hltm : n < p.ms.length
     . obtain ⟨bm, om, hEm, hbm, hIm⟩ : ∃ b o, p.mA = some ⟨b, o, none⟩ /\ b < w.heap.size /\ In w b o p.ms := by
        rcases HP.out.ma with h | h
        . rw [h] at hltm; simp at hltm
        . exact h
       have hAm := hidP hEm
       clear hEm
       have FS : Hid (∀ W : World, Below w.heap.size w W -> W.rangeAt bm (om + n * 10) (Cel.cs p.ms[n])) := fun W g => (hIm.below hbm g).el n hltm
       have hDD := hidP (hD.out.trans (Qb2 _ p.ms n hltm))
       have hi0 : (0 : Int) <= (n : Int) := by omega
       have hi1 : (n : Int) < (p.ms.length : Int) := by omega
       have EP : Hid (∀ W : World, Below w.heap.size w W -> Calls Tryz.prog 42 #[.agg (Cel.cs p.ms[n]).toArray, .int .i64 p.size] W fun e w' => e = .returned (.bool (rpB p.size p.ms[n])) /\ Below W.heap.size W w') := fun W g => by
        have hm := HK.out.m _ (List.getElem_mem hltm)
        have hl := HK.out.f.mi _ (List.getElem_mem hltm)
        exact Qdf p.size p.ms[n].kind p.ms[n].frm p.ms[n].too p.ms[n].term p.ms[n].index p.ms[n].iterm p.ms[n].commit p.ms[n].ok p.ms[n].snap hm.2 p.ms[n].A p.ms[n].cap p.ms[n].l (by omega) hm.1 W ((HP.out.me _ (List.getElem_mem hltm)).below g)
       have SS : Hid (∀ W : World, Below wr.heap.size wr W -> (fun (V : World) => (V.cell? ⟨w.heap.size, 4, none⟩ = some (.int .i64 p.size) /\ V.cell? ⟨w.heap.size, 6, none⟩ = some (.slice (some ⟨bm, om, none⟩) p.ms.length p.mc)) /\ V.rangeAt bm (om + n * 10) (Cel.cs p.ms[n])) W) := fun W g => by
        have hx := hX.out.below g hX.out.lt
        refine ⟨⟨hx.cell rfl, ?_⟩, FS.out W (via0 g hB.out)⟩
        rw [← hAm.out]; exact hx.cell rfl
       rw [hAm.out] at x6
       clear hD
       generalize rpB p.size p.ms[n] = ob at EP hDD
       go_wp2_with fail
       refine wp_region_noPanic ?_
       refine wp_region_held_drew (S := (fun (V : World) => (V.cell? ⟨w.heap.size, 4, none⟩ = some (.int .i64 p.size) /\ V.cell? ⟨w.heap.size, 6, none⟩ = some (.slice (some ⟨bm, om, none⟩) p.ms.length p.mc)) /\ V.rangeAt bm (om + n * 10) (Cel.cs p.ms[n]))) (by kernel_rfl) ?_ (fun hH => ?_)
       . exact SS.out _ (Below.drew (Below.refl _ _))
       refine ztk [0,1,2,3] ?_; repeat (refine ztn (h := ?_); try simp only [zX,zY])
       refine zte ?_
       refine zt1 4 ?_; refine ztn (hy := fun w' hSw => Qce rfl rfl hSw.2 Tryz.underlying113 (by kernel_rfl)) (h := ?_); try simp only [zX,zY]
       refine zte ?_
       refine ztk [5,6] ?_; repeat (refine ztn (h := ?_); try simp only [zX,zY])
       refine zte ?_
       refine zR1 7 (fun K hK => ?_)
       simp only [zG]
       go_simp
       refine (EP.out _ hB.out.drew).mono ?_; rintro e w6 ⟨rfl, g6⟩; have g7 := via0 g6 (Below.drew (Below.refl _ _)); have BB := hidP (via0 g7 hB.out); have XX := hidP (hX.out.below g7 hX.out.lt)
       refine hK.out _ _ ?_ (fun hH => ?_)
       . exact SS.out _ g7
       clear hK K g6 g7
       try simp only [zX,zY]
       cases ob
       . have hf : Hid (Qas p = false) := by show _ = _; rw [HF.out, hDD.out]; simp
         refine ztk [8] ?_; repeat (refine ztn (h := ?_); try simp only [zX,zY])
         refine zte ?_
         refine zdn ?_
         go_wp2
         go_ret
         exact ⟨by rw [hf.out]; rfl, BB.out⟩
       . refine ztk [8] ?_; repeat (refine ztn (h := ?_); try simp only [zX,zY])
         refine zte ?_
         refine zdn ?_
         go_wp2
         exact ⟨⟨n + 1, by go_num, by omega, BB, XX, hidP (by have := hDD.out; simpa using this)⟩, by simp [intOf]; omega⟩
     . have hS := hidP (show p.ms.all (rpB p.size) = true by rw [hD.out, List.drop_of_length_le (by omega)]; rfl)
       replace HF := hidP (show Qas p = p.ds.all okCo by rw [HF.out, hS.out]; simp)
       clear hD hS
       go_wp2
       clear q0 x4 x6
       go_loopw [5] (fun i W => ∃ n : Nat, i = .int .i64 (n : Int) /\ n <= p.ds.length /\ Hid (Below w.heap.size w W) /\ Hid (Blk W w.heap.size 39 (Qal p)) /\ Hid (p.ds.all okCo = (p.ds.drop n).all okCo)) (fun i _ => p.ds.length - (intOf i).toNat)
       case atStart => exact ⟨0, rfl, by omega, hB, hX, rfl⟩
       case round =>
        clear hB hX hn
        obtain ⟨n, rfl, hn, hB, hX, hD⟩ := hrel
        have x10 := hX.out.cell (i := 10) (v := .slice p.dA p.ds.length p.dc) rfl
        have q0 := hX.out.lt
        by_cases hltd : n < p.ds.length
        . obtain ⟨bd, od, hEd, hbd, hId⟩ : ∃ b o, p.dA = some ⟨b, o, none⟩ /\ b < w.heap.size /\ In w b o p.ds := by
           rcases HP.out.da with h | h
           . rw [h] at hltd; simp at hltd
           . exact h
          have hAd := hidP hEd
          clear hEd
          have hDD := hidP (hD.out.trans (Qb2 _ p.ds n hltd))
          have hi0 : (0 : Int) <= (n : Int) := by omega
          have hi1 : (n : Int) < (p.ds.length : Int) := by omega
          have EP : Hid (∀ W : World, Calls Tryz.prog 43 #[.agg (Qan p.ds[n].who p.ds[n].seq p.ds[n].op p.ds[n].a p.ds[n].b p.ds[n].c p.ds[n].key p.ds[n].text)] W fun e w' => e = .returned (.bool (okCo p.ds[n])) /\ Below W.heap.size W w') := fun W => by
           have hm := HK.out.d _ (List.getElem_mem hltd)
           exact CmdOk.spec_any _ _ _ _ _ _ _ _ hm.1 hm.2 W
          obtain ⟨c0, c1, c2, c3, c4, c5, c6, c7⟩ := (hId.below hbd hB.out).getCo n hltd
          rw [hAd.out] at x10
          clear hD
          generalize okCo p.ds[n] = ob at EP hDD
          cases ob
          . have hf : Hid (Qas p = false) := by show _ = _; rw [HF.out, hDD.out]; simp
            go_wp2_with fail
            refine (EP.out _).mono ?_
            rintro e w6 ⟨rfl, g6⟩
            have BB := hidP (via0 g6 (show Below w.heap.size w _ by first | exact hB.out | exact hB.out.drew))
            go_wp2
            go_ret
            exact ⟨by rw [hf.out]; rfl, BB.out⟩
          . go_wp2_with fail
            refine (EP.out _).mono ?_
            rintro e w6 ⟨rfl, g6⟩
            have BB := hidP (via0 g6 (show Below w.heap.size w _ by first | exact hB.out | exact hB.out.drew))
            have XX := hidP (show Blk w6 w.heap.size 39 (Qal p) by first | exact hX.out.below g6 hX.out.lt | exact hX.out.below (via0 g6 (Below.drew (Below.refl _ _))) hX.out.lt)
            go_wp2
            exact ⟨⟨n + 1, by go_num, by omega, BB, XX, hidP (by have := hDD.out; simpa using this)⟩, by simp [intOf]; omega⟩
        . have hf : Hid (Qas p = true) := by show _ = _; rw [HF.out, hD.out, List.drop_of_length_le (by omega)]; rfl
          go_wp2
          go_ret
          exact ⟨by rw [hf.out]; rfl, hB.out⟩
end Go.Proofs.YtkmkldjipihceaaGreat.Gen
