/-
  The specification's readers of rows and makers: what they tell is what the program's tell, or the cursor is not right any more. Condition: at most 1048576 bytes.
-/
import Derived.Test.YtjjbbkmedpfenaaGreatCurB
import Derived.Test.YtjjbbkmedpfenaaGreatRMany
namespace Go.Proofs.YtjjbbkmedpfenaaGreat.Gen
open Go.ChangeShapes Go.WideShapes Go.ChangeAt Go.RowKit Go.Joins Go.Deep Base
open Items (It)
set_option linter.unusedVariables false
set_option linter.unusedSimpArgs false

def eIt1 (l : List UInt8) (o : Option Int) := nS l (o)
def eIt2 (l : List UInt8) (o : Option Int) := tS l (nO (eIt1 l o))
def eIt3 (l : List UInt8) (o : Option Int) := tS l (nO (eIt2 l o))
def eIt4 (l : List UInt8) (o : Option Int) := nS l (nO (eIt3 l o))
def eIt5 (l : List UInt8) (o : Option Int) := nS l (nO (eIt4 l o))
def elIt (l : List UInt8) (o : Option Int) : It := ⟨(nV (eIt1 l o) : Int), tV (eIt2 l o), tV (eIt3 l o), (nV (eIt4 l o) : Int), (nV (eIt5 l o) : Int)⟩
def stIt (l : List UInt8) (o : Option Int) : Option Int := nO (eIt5 l o)
theorem stpIt (l : List UInt8) : Stp (getIt l) (elIt l) (stIt l) := by
  intro c
  cases h1 : getN l (c : Int) with
  | none => exact .inl ⟨by simp [getIt, h1], by simp [stIt, eIt1, eIt2, eIt3, eIt4, eIt5, nS, tS, nO, h1]⟩
  | some p1 =>
  obtain ⟨v1, c1⟩ := p1
  cases h2 : getT l (c1 : Int) with
  | none => exact .inl ⟨by simp [getIt, h1, h2], by simp [stIt, eIt1, eIt2, eIt3, eIt4, eIt5, nS, tS, nO, h1, h2]⟩
  | some p2 =>
  obtain ⟨v2, c2⟩ := p2
  cases h3 : getT l (c2 : Int) with
  | none => exact .inl ⟨by simp [getIt, h1, h2, h3], by simp [stIt, eIt1, eIt2, eIt3, eIt4, eIt5, nS, tS, nO, h1, h2, h3]⟩
  | some p3 =>
  obtain ⟨v3, c3⟩ := p3
  cases h4 : getN l (c3 : Int) with
  | none => exact .inl ⟨by simp [getIt, h1, h2, h3, h4], by simp [stIt, eIt1, eIt2, eIt3, eIt4, eIt5, nS, tS, nO, h1, h2, h3, h4]⟩
  | some p4 =>
  obtain ⟨v4, c4⟩ := p4
  cases h5 : getN l (c4 : Int) with
  | none => exact .inl ⟨by simp [getIt, h1, h2, h3, h4, h5], by simp [stIt, eIt1, eIt2, eIt3, eIt4, eIt5, nS, tS, nO, h1, h2, h3, h4, h5]⟩
  | some p5 =>
  obtain ⟨v5, c5⟩ := p5
  exact .inr ⟨c5, by simp [getIt, elIt, eIt1, eIt2, eIt3, eIt4, eIt5, nS, tS, nO, nV, tV, h1, h2, h3, h4, h5], by simp [stIt, eIt1, eIt2, eIt3, eIt4, eIt5, nS, tS, nO, h1, h2, h3, h4, h5]⟩

def hl7Row1 (l : List UInt8) (o : Option Int) := nS l (o)
def hl7Row2 (l : List UInt8) (o : Option Int) := nS l (nO (hl7Row1 l o))
def hl7Row3 (l : List UInt8) (o : Option Int) := nS l (nO (hl7Row2 l o))
theorem linkl7Row (l : List UInt8) (c : Nat) (xs : List It) (o : Option Int) (h : gl l (getIt l) (nO (hl7Row2 l (some (c : Int)))) = o.map fun c => (xs, c.toNat)) : getRw l (c : Int) = o.map fun d => (⟨(nV (hl7Row1 l (some (c : Int))) : Int), (nV (hl7Row2 l (some (c : Int))) : Int), xs⟩, d.toNat) := by
  unfold getRw
  cases h1 : getN l (c : Int) with
  | none =>
    have e : gl l (getIt l) (nO (hl7Row2 l (some (c : Int)))) = none := by simp [gl, hl7Row1, hl7Row2, hl7Row3, nS, nO, h1]
    rw [e] at h
    cases o with
    | none => rfl
    | some d => cases h
  | some p1 =>
  obtain ⟨v1, c1⟩ := p1
  cases h2 : getN l (c1 : Int) with
  | none =>
    have e : gl l (getIt l) (nO (hl7Row2 l (some (c : Int)))) = none := by simp [gl, hl7Row1, hl7Row2, hl7Row3, nS, nO, h1, h2]
    rw [e] at h
    cases o with
    | none => simp only [h2]; rfl
    | some d => cases h
  | some p2 =>
  obtain ⟨v2, c2⟩ := p2
  have e : gl l (getIt l) (nO (hl7Row2 l (some (c : Int)))) = getList l (getIt l) (c2 : Int) := by simp [gl, hl7Row1, hl7Row2, hl7Row3, nS, nO, h1, h2]
  rw [e] at h
  simp only [h2]
  rw [h]
  cases o with
  | none => rfl
  | some d => simp [hl7Row1, hl7Row2, hl7Row3, nS, nO, nV, h1, h2]
set_option maxRecDepth 100000 in
set_option maxHeartbeats 8000000 in
theorem l7Row_any (r : Nat) (A : Option Addr) (cap : Nat) (l : List UInt8) (hl : l.length ≤ 1048576) (hcap : l.length ≤ cap) (hcm : cap ≤ 9223372036854775807) (c0 : Nat) (w : World) (h : CuO w r A cap l (some (c0 : Int))) :
    Calls Tryz.prog 37 #[.pointer (some ⟨r, 0, none⟩)] w fun e w' => ∃ (x : PR) (aa : Option Addr) (cc : Nat), e = .returned (.agg #[.int .i64 x.start, .int .i64 x.next, .slice aa (List.length x.its) cc]) ∧ Only r w w' ∧ w'.ownsRow w.heap.size 118 5 (.slice aa (List.length x.its) cc) (List.length x.its) (flat x.its) ∧ ∃ (o' : Option Int), CuO w' r A cap l o' ∧ Rel (getRw l) c0 x o' := by
  have hr := h.far.1
  obtain ⟨o0, ho0⟩ : ∃ o0, some (c0 : Int) = o0 := ⟨_, rfl⟩
  have Ho0 := hidP ho0
  rw [ho0] at h
  clear ho0
  have px0 := Blk.new (w.alloc (.cells #[.int .i64 0, .int .i64 0, .slice none 0 0] 67)) 67 #[.int .i64 0, .int .i64 0, .slice none 0 0]
  have pr0 := (Blk.new w 67 #[.int .i64 0, .int .i64 0, .slice none 0 0]).alloc (.cells #[.int .i64 0, .int .i64 0, .slice none 0 0] 67)
  simp only [World.size_alloc] at px0
  have HC0 := hidP ((CB.start h).below (alloc0 (alloc0 (Below.refl _ w) (.cells #[.int .i64 0, .int .i64 0, .slice none 0 0] 67)) (.cells #[.int .i64 0, .int .i64 0, .slice none 0 0] 67)))
  have Hpx0 := hidP px0
  have Hpr0 := hidP pr0
  clear px0 pr0 h
  go_enter Tryz.func37, Tryz.ntmps37
  go_wp2_with fail
  refine (l7Num_any r A cap l hl (o0) _ HC0.out.cu).mono ?_
  rintro e w1 ⟨rfl, o1, h1⟩
  have hn1 : nV (hl7Row1 l o0) ≤ 2147483647 := nV_le l _
  have hv1 : nV (nS l (o0)) = nV (hl7Row1 l o0) := rfl
  rw [hv1]
  clear hv1
  have p1 : Blk w1 (w.heap.size + 1) 67 #[.int .i64 0, .int .i64 0, .slice none 0 0] := Hpx0.out.only o1 (by omega)
  have g1 := Hpr0.out.only o1 (by omega)
  have d1 : w1.cell? ⟨w.heap.size + 1, 0, none⟩ = some (.int .i64 0) := p1.cell (i := 0) rfl
  have f1 := p1.thaw 0
  have q1' := p1.lt
  have Hpx1 : Hid (Blk (w1.setCell ⟨w.heap.size + 1, 0, none⟩ (Value.int .i64 (nV (hl7Row1 l o0) : Int))) (w.heap.size + 1) 67 #[Value.int .i64 (nV (hl7Row1 l o0) : Int), .int .i64 0, .slice none 0 0]) := hidP (p1.setAt 0 (Value.int .i64 (nV (hl7Row1 l o0) : Int)))
  have Hpr1 := hidP (g1.other (show w.heap.size ≠ w.heap.size + 1 by omega) 0 (Value.int .i64 (nV (hl7Row1 l o0) : Int)))
  have HC1 := hidP ((HC0.out.call o1 (show CuO w1 r A cap l (nO (hl7Row1 l o0)) from h1)).offp (Offp.of_only ((Only.refl (w.heap.size + 1) w1).set 0 (Value.int .i64 (nV (hl7Row1 l o0) : Int)))) (fun x e => by subst e; omega))
  clear o1 h1 p1 g1 HC0 Hpx0 Hpr0
  go_wp2_with fail
  refine (l7Num_any r A cap l hl (nO (hl7Row1 l o0)) _ HC1.out.cu).mono ?_
  rintro e w2 ⟨rfl, o2, h2⟩
  have hn2 : nV (hl7Row2 l o0) ≤ 2147483647 := nV_le l _
  have hv2 : nV (nS l (nO (hl7Row1 l o0))) = nV (hl7Row2 l o0) := rfl
  rw [hv2]
  clear hv2
  have p2 : Blk w2 (w.heap.size + 1) 67 #[Value.int .i64 (nV (hl7Row1 l o0) : Int), .int .i64 0, .slice none 0 0] := Hpx1.out.only o2 (by omega)
  have g2 := Hpr1.out.only o2 (by omega)
  have d2 : w2.cell? ⟨w.heap.size + 1, 1, none⟩ = some (.int .i64 0) := p2.cell (i := 1) rfl
  have f2 := p2.thaw 1
  have q2' := p2.lt
  have Hpx2 : Hid (Blk (w2.setCell ⟨w.heap.size + 1, 1, none⟩ (Value.int .i64 (nV (hl7Row2 l o0) : Int))) (w.heap.size + 1) 67 #[Value.int .i64 (nV (hl7Row1 l o0) : Int), Value.int .i64 (nV (hl7Row2 l o0) : Int), .slice none 0 0]) := hidP (p2.setAt 1 (Value.int .i64 (nV (hl7Row2 l o0) : Int)))
  have Hpr2 := hidP (g2.other (show w.heap.size ≠ w.heap.size + 1 by omega) 1 (Value.int .i64 (nV (hl7Row2 l o0) : Int)))
  have HC2 := hidP ((HC1.out.call o2 (show CuO w2 r A cap l (nO (hl7Row2 l o0)) from h2)).offp (Offp.of_only ((Only.refl (w.heap.size + 1) w2).set 1 (Value.int .i64 (nV (hl7Row2 l o0) : Int)))) (fun x e => by subst e; omega))
  clear o2 h2 p2 g2 HC1 Hpx1 Hpr1 d1 f1 q1'
  go_wp2_with fail
  refine (l7Num_any r A cap l hl (nO (hl7Row2 l o0)) _ HC2.out.cu).mono ?_
  rintro e w3 ⟨rfl, o3, h3⟩
  have hn3 : nV (hl7Row3 l o0) ≤ 2147483647 := nV_le l _
  have hv3 : nV (nS l (nO (hl7Row2 l o0))) = nV (hl7Row3 l o0) := rfl
  rw [hv3]
  clear hv3
  have HpxL := hidP (Hpx2.out.only o3 (by omega))
  have HprL := hidP (Hpr2.out.only o3 (by omega))
  have HCL := hidP (HC2.out.call o3 (show CuO w3 r A cap l (nO (hl7Row3 l o0)) from h3))
  have HL0 : Hid (LkG (getIt l) l.length (gl l (getIt l) (nO (hl7Row2 l o0))) (nV (hl7Row3 l o0)) 0 [] (nO (hl7Row3 l o0))) := hidP (LkG.start l (getIt l) (nO (hl7Row2 l o0)))
  obtain ⟨G0, hG0⟩ : ∃ G0, gl l (getIt l) (nO (hl7Row2 l o0)) = G0 := ⟨_, rfl⟩
  rw [hG0] at HL0
  have HG0 := hidP hG0
  have HO0 : Hid (w3.ownsRow (w.heap.size + 2) 118 5 (.slice none ([] : List It).length 0) ([] : List It).length (flat ([] : List It))) := hidP (World.ownsRow_nil _ _ _ _)
  clear o3 h3 HC2 Hpx2 Hpr2 d2 f2 q2' hG0
  generalize nV (hl7Row3 l o0) = n at *
  generalize nO (hl7Row3 l o0) = oL at *
  go_wp2
  go_loopw [5] (fun v4 W => ∃ (k : Nat) (cp : Nat) (a : Option Addr) (xs : List It) (o : Option Int), v4 = .int .i64 (k : Int) ∧ k ≤ n ∧ Hid (xs.length = k) ∧ Hid (CB w W r A cap l o) ∧ Hid (W.ownsRow (w.heap.size + 2) 118 5 (.slice a xs.length cp) xs.length (flat xs)) ∧ Hid (Blk W w.heap.size 67 #[.int .i64 0, .int .i64 0, .slice none 0 0]) ∧ Hid (Blk W (w.heap.size + 1) 67 #[Value.int .i64 (nV (hl7Row1 l o0) : Int), Value.int .i64 (nV (hl7Row2 l o0) : Int), .slice a xs.length cp]) ∧ Hid (LkG (getIt l) l.length G0 n k xs o)) (fun v4 _ => n - (intOf v4).toNat)
  case atStart => exact ⟨0, 0, none, [], oL, rfl, by omega, rfl, HCL, HO0, HprL, HpxL, HL0⟩
  case round =>
    clear HCL HO0 HprL HpxL HL0
    obtain ⟨k, cp, a, xs, o, rfl, hk, hxk, HC, HO, Hpr, Hpx, HLk⟩ := hrel
    have hklen := HLk.out.le
    have hxl : Hid (xs.length ≤ 2000000) := by show _ ≤ _; have := hxk.out; omega
    obtain ⟨cok, crl⟩ := HC.out.ok
    by_cases hent : k < n ∧ o.isSome = true
    · obtain ⟨hkn, hos⟩ := hent
      have hkn' : (k : Int) < (n : Int) := by omega
      obtain ⟨c, rfl⟩ := HLk.out.place hos
      have HLk' := hidP (HLk.out.next (fun i x d h => getIt_le h) ((stpIt l).rel c) hkn)
      have HC0e := hidP (HC.out.below (alloc0 (Below.refl _ wr) (.cells #[.int .i64 0, .string ⟨#[]⟩, .string ⟨#[]⟩, .int .i64 0, .int .i64 0] 118)))
      have Hpe0 := hidP (Blk.new wr 118 #[.int .i64 0, .string ⟨#[]⟩, .string ⟨#[]⟩, .int .i64 0, .int .i64 0])
      have HO0e := hidP (owns_alloc HO.out (.cells #[.int .i64 0, .string ⟨#[]⟩, .string ⟨#[]⟩, .int .i64 0, .int .i64 0] 118))
      have Hpr0e := hidP (Hpr.out.alloc (.cells #[.int .i64 0, .string ⟨#[]⟩, .string ⟨#[]⟩, .int .i64 0, .int .i64 0] 118))
      have Hpx0e := hidP (Hpx.out.alloc (.cells #[.int .i64 0, .string ⟨#[]⟩, .string ⟨#[]⟩, .int .i64 0, .int .i64 0] 118))
      have hob : Hid (∀ y, (Value.slice a xs.length cp).ownBlock = some y → w.heap.size + 2 ≤ y ∧ y < wr.heap.size) := hidP (fun y hy => HO.out.lt y hy)
      have hbw : w.heap.size + 2 ≤ wr.heap.size := Hpx.out.lt
      obtain ⟨eb, heb⟩ : ∃ eb, wr.heap.size = eb := ⟨_, rfl⟩
      clear hklen HLk HC HO Hpr Hpx
      have cok' : wr.cell? ⟨r, 2, none⟩ = some (.bool true) := cok
      clear cok
      go_wp2_with fail
      refine (l7Num_any r A cap l hl (some (c : Int)) _ HC0e.out.cu).mono ?_
      rintro e w1e ⟨rfl, o1, h1⟩
      rw [heb] at Hpe0 hob hbw
      have ne1 : eb ≠ r := by omega
      have hnv1 := nV_le l (some (c : Int))
      have xt1 : (elIt l (some (c : Int))).off = (nV (nS l (some (c : Int))) : Int) := rfl
      rw [← xt1]
      have pe1 : Blk w1e eb 118 #[.int .i64 0, .string ⟨#[]⟩, .string ⟨#[]⟩, .int .i64 0, .int .i64 0] := Hpe0.out.only o1 ne1
      have hd1 : w1e.cell? ⟨eb, 0, none⟩ = some (.int .i64 0) := pe1.cell (i := 0) rfl
      have hf1 := pe1.thaw 0
      have hq1 := pe1.lt
      have kz := Offp.of_only ((Only.refl eb w1e).set 0 (Value.int .i64 (elIt l (some (c : Int))).off))
      have HC1e := hidP ((HC0e.out.call o1 (show CuO w1e r A cap l (nO (eIt1 l (some (c : Int)))) from h1)).offp kz (fun x e => by subst e; omega))
      have HO1e := hidP (owns_offp (owns_only' HO0e.out o1 (by omega)) kz (fun y hy e => by have := hob.out y hy; omega))
      have Hpr1e := hidP ((Hpr0e.out.only o1 (by omega)).offp kz (by show ¬ _ = _; omega))
      have Hpx1e := hidP ((Hpx0e.out.only o1 (by omega)).offp kz (by show ¬ _ = _; omega))
      have Hpe1 : Hid (Blk (w1e.setCell ⟨eb, 0, none⟩ (Value.int .i64 (elIt l (some (c : Int))).off)) eb 118 #[Value.int .i64 (elIt l (some (c : Int))).off, .string ⟨#[]⟩, .string ⟨#[]⟩, .int .i64 0, .int .i64 0]) := hidP (pe1.setAt 0 (Value.int .i64 (elIt l (some (c : Int))).off))
      clear o1 h1 pe1 kz HC0e HO0e Hpr0e Hpx0e Hpe0 xt1
      go_wp2_with fail
      refine (l7Text_any r A cap l hl hcap hcm (nO (eIt1 l (some (c : Int)))) _ HC1e.out.cu).mono ?_
      rintro e w2e ⟨rfl, o2, h2⟩
      have ne2 : eb ≠ r := by omega
      have xt2 : (elIt l (some (c : Int))).key = tV (tS l (nO (eIt1 l (some (c : Int))))) := rfl
      rw [← xt2]
      have pe2 : Blk w2e eb 118 #[Value.int .i64 (elIt l (some (c : Int))).off, .string ⟨#[]⟩, .string ⟨#[]⟩, .int .i64 0, .int .i64 0] := Hpe1.out.only o2 ne2
      have hd2 : w2e.cell? ⟨eb, 1, none⟩ = some (.string ⟨#[]⟩) := pe2.cell (i := 1) rfl
      have hf2 := pe2.thaw 1
      have hq2 := pe2.lt
      have kz := Offp.of_only ((Only.refl eb w2e).set 1 (Value.string (elIt l (some (c : Int))).key))
      have HC2e := hidP ((HC1e.out.call o2 (show CuO w2e r A cap l (nO (eIt2 l (some (c : Int)))) from h2)).offp kz (fun x e => by subst e; omega))
      have HO2e := hidP (owns_offp (owns_only' HO1e.out o2 (by omega)) kz (fun y hy e => by have := hob.out y hy; omega))
      have Hpr2e := hidP ((Hpr1e.out.only o2 (by omega)).offp kz (by show ¬ _ = _; omega))
      have Hpx2e := hidP ((Hpx1e.out.only o2 (by omega)).offp kz (by show ¬ _ = _; omega))
      have Hpe2 : Hid (Blk (w2e.setCell ⟨eb, 1, none⟩ (Value.string (elIt l (some (c : Int))).key)) eb 118 #[Value.int .i64 (elIt l (some (c : Int))).off, Value.string (elIt l (some (c : Int))).key, .string ⟨#[]⟩, .int .i64 0, .int .i64 0]) := hidP (pe2.setAt 1 (Value.string (elIt l (some (c : Int))).key))
      clear o2 h2 pe2 kz HC1e HO1e Hpr1e Hpx1e Hpe1 xt2 hd1 hf1 hq1
      go_wp2_with fail
      refine (l7Text_any r A cap l hl hcap hcm (nO (eIt2 l (some (c : Int)))) _ HC2e.out.cu).mono ?_
      rintro e w3e ⟨rfl, o3, h3⟩
      have ne3 : eb ≠ r := by omega
      have xt3 : (elIt l (some (c : Int))).text = tV (tS l (nO (eIt2 l (some (c : Int))))) := rfl
      rw [← xt3]
      have pe3 : Blk w3e eb 118 #[Value.int .i64 (elIt l (some (c : Int))).off, Value.string (elIt l (some (c : Int))).key, .string ⟨#[]⟩, .int .i64 0, .int .i64 0] := Hpe2.out.only o3 ne3
      have hd3 : w3e.cell? ⟨eb, 2, none⟩ = some (.string ⟨#[]⟩) := pe3.cell (i := 2) rfl
      have hf3 := pe3.thaw 2
      have hq3 := pe3.lt
      have kz := Offp.of_only ((Only.refl eb w3e).set 2 (Value.string (elIt l (some (c : Int))).text))
      have HC3e := hidP ((HC2e.out.call o3 (show CuO w3e r A cap l (nO (eIt3 l (some (c : Int)))) from h3)).offp kz (fun x e => by subst e; omega))
      have HO3e := hidP (owns_offp (owns_only' HO2e.out o3 (by omega)) kz (fun y hy e => by have := hob.out y hy; omega))
      have Hpr3e := hidP ((Hpr2e.out.only o3 (by omega)).offp kz (by show ¬ _ = _; omega))
      have Hpx3e := hidP ((Hpx2e.out.only o3 (by omega)).offp kz (by show ¬ _ = _; omega))
      have Hpe3 : Hid (Blk (w3e.setCell ⟨eb, 2, none⟩ (Value.string (elIt l (some (c : Int))).text)) eb 118 #[Value.int .i64 (elIt l (some (c : Int))).off, Value.string (elIt l (some (c : Int))).key, Value.string (elIt l (some (c : Int))).text, .int .i64 0, .int .i64 0]) := hidP (pe3.setAt 2 (Value.string (elIt l (some (c : Int))).text))
      clear o3 h3 pe3 kz HC2e HO2e Hpr2e Hpx2e Hpe2 xt3 hd2 hf2 hq2
      go_wp2_with fail
      refine (l7Num_any r A cap l hl (nO (eIt3 l (some (c : Int)))) _ HC3e.out.cu).mono ?_
      rintro e w4e ⟨rfl, o4, h4⟩
      have ne4 : eb ≠ r := by omega
      have hnv4 := nV_le l (nO (eIt3 l (some (c : Int))))
      have xt4 : (elIt l (some (c : Int))).who = (nV (nS l (nO (eIt3 l (some (c : Int))))) : Int) := rfl
      rw [← xt4]
      have pe4 : Blk w4e eb 118 #[Value.int .i64 (elIt l (some (c : Int))).off, Value.string (elIt l (some (c : Int))).key, Value.string (elIt l (some (c : Int))).text, .int .i64 0, .int .i64 0] := Hpe3.out.only o4 ne4
      have hd4 : w4e.cell? ⟨eb, 3, none⟩ = some (.int .i64 0) := pe4.cell (i := 3) rfl
      have hf4 := pe4.thaw 3
      have hq4 := pe4.lt
      have kz := Offp.of_only ((Only.refl eb w4e).set 3 (Value.int .i64 (elIt l (some (c : Int))).who))
      have HC4e := hidP ((HC3e.out.call o4 (show CuO w4e r A cap l (nO (eIt4 l (some (c : Int)))) from h4)).offp kz (fun x e => by subst e; omega))
      have HO4e := hidP (owns_offp (owns_only' HO3e.out o4 (by omega)) kz (fun y hy e => by have := hob.out y hy; omega))
      have Hpr4e := hidP ((Hpr3e.out.only o4 (by omega)).offp kz (by show ¬ _ = _; omega))
      have Hpx4e := hidP ((Hpx3e.out.only o4 (by omega)).offp kz (by show ¬ _ = _; omega))
      have Hpe4 : Hid (Blk (w4e.setCell ⟨eb, 3, none⟩ (Value.int .i64 (elIt l (some (c : Int))).who)) eb 118 #[Value.int .i64 (elIt l (some (c : Int))).off, Value.string (elIt l (some (c : Int))).key, Value.string (elIt l (some (c : Int))).text, Value.int .i64 (elIt l (some (c : Int))).who, .int .i64 0]) := hidP (pe4.setAt 3 (Value.int .i64 (elIt l (some (c : Int))).who))
      clear o4 h4 pe4 kz HC3e HO3e Hpr3e Hpx3e Hpe3 xt4 hd3 hf3 hq3
      go_wp2_with fail
      refine (l7Num_any r A cap l hl (nO (eIt4 l (some (c : Int)))) _ HC4e.out.cu).mono ?_
      rintro e w5e ⟨rfl, o5, h5⟩
      have ne5 : eb ≠ r := by omega
      have hnv5 := nV_le l (nO (eIt4 l (some (c : Int))))
      have xt5 : (elIt l (some (c : Int))).time = (nV (nS l (nO (eIt4 l (some (c : Int))))) : Int) := rfl
      rw [← xt5]
      have pe5 : Blk w5e eb 118 #[Value.int .i64 (elIt l (some (c : Int))).off, Value.string (elIt l (some (c : Int))).key, Value.string (elIt l (some (c : Int))).text, Value.int .i64 (elIt l (some (c : Int))).who, .int .i64 0] := Hpe4.out.only o5 ne5
      have hd5 : w5e.cell? ⟨eb, 4, none⟩ = some (.int .i64 0) := pe5.cell (i := 4) rfl
      have hf5 := pe5.thaw 4
      have hq5 := pe5.lt
      have kz := Offp.of_only ((Only.refl eb w5e).set 4 (Value.int .i64 (elIt l (some (c : Int))).time))
      have HC5e := hidP ((HC4e.out.call o5 (show CuO w5e r A cap l (nO (eIt5 l (some (c : Int)))) from h5)).offp kz (fun x e => by subst e; omega))
      have HO5e := hidP (owns_offp (owns_only' HO4e.out o5 (by omega)) kz (fun y hy e => by have := hob.out y hy; omega))
      have Hpr5e := hidP ((Hpr4e.out.only o5 (by omega)).offp kz (by show ¬ _ = _; omega))
      have Hpx5e := hidP ((Hpx4e.out.only o5 (by omega)).offp kz (by show ¬ _ = _; omega))
      have Hpe5 : Hid (Blk (w5e.setCell ⟨eb, 4, none⟩ (Value.int .i64 (elIt l (some (c : Int))).time)) eb 118 #[Value.int .i64 (elIt l (some (c : Int))).off, Value.string (elIt l (some (c : Int))).key, Value.string (elIt l (some (c : Int))).text, Value.int .i64 (elIt l (some (c : Int))).who, Value.int .i64 (elIt l (some (c : Int))).time]) := hidP (pe5.setAt 4 (Value.int .i64 (elIt l (some (c : Int))).time))
      clear o5 h5 pe5 kz HC4e HO4e Hpr4e Hpx4e Hpe4 xt5 hd4 hf4 hq4
      have hs8 : (w5e.setCell ⟨eb, 4, none⟩ (Value.int .i64 (elIt l (some (c : Int))).time)).heap.size = w5e.heap.size := by simp
      obtain ⟨a2, c2, W9, hr9, own9, k9, hby⟩ := app_el (α := It) (pg := Tryz.prog) (z := Items.zeroItem) Tryz.underlying65 Items.infoItem rfl (by decide) (by decide) HO5e.out (by rw [hs8]; omega) (elIt l (some (c : Int))) #[Value.int .i64 (elIt l (some (c : Int))).off, Value.string (elIt l (some (c : Int))).key, Value.string (elIt l (some (c : Int))).text, Value.int .i64 (elIt l (some (c : Int))).who, Value.int .i64 (elIt l (some (c : Int))).time] rfl hxl.out
      rw [hs8] at hr9
      have hne1 : eb ≠ w.heap.size + 1 := by omega
      have hne2 : w.heap.size + 1 ≠ eb := by omega
      have y0 : (w5e.setCell ⟨eb, 4, none⟩ (Value.int .i64 (elIt l (some (c : Int))).time)).cell? ⟨eb, 0, none⟩ = some (Value.int .i64 (elIt l (some (c : Int))).off) := Hpe5.out.cell (i := 0) rfl
      have y1 : (w5e.setCell ⟨eb, 4, none⟩ (Value.int .i64 (elIt l (some (c : Int))).time)).cell? ⟨eb, 1, none⟩ = some (Value.string (elIt l (some (c : Int))).key) := Hpe5.out.cell (i := 1) rfl
      have y2 : (w5e.setCell ⟨eb, 4, none⟩ (Value.int .i64 (elIt l (some (c : Int))).time)).cell? ⟨eb, 2, none⟩ = some (Value.string (elIt l (some (c : Int))).text) := Hpe5.out.cell (i := 2) rfl
      have y3 : (w5e.setCell ⟨eb, 4, none⟩ (Value.int .i64 (elIt l (some (c : Int))).time)).cell? ⟨eb, 3, none⟩ = some (Value.int .i64 (elIt l (some (c : Int))).who) := Hpe5.out.cell (i := 3) rfl
      have y4 : (w5e.setCell ⟨eb, 4, none⟩ (Value.int .i64 (elIt l (some (c : Int))).time)).cell? ⟨eb, 4, none⟩ = some (Value.int .i64 (elIt l (some (c : Int))).time) := Hpe5.out.cell (i := 4) rfl
      have b4 : (w5e.setCell ⟨eb, 4, none⟩ (Value.int .i64 (elIt l (some (c : Int))).time)).cell? ⟨w.heap.size + 1, 2, none⟩ = some (.slice a (List.length xs) cp) := Hpx5e.out.cell (i := 2) rfl
      have qx := Hpx5e.out.lt
      have qe := Hpe5.out.lt
      have p9 := (Hpx5e.out.alloc (.cells #[Value.int .i64 (elIt l (some (c : Int))).off, Value.string (elIt l (some (c : Int))).key, Value.string (elIt l (some (c : Int))).text, Value.int .i64 (elIt l (some (c : Int))).who, Value.int .i64 (elIt l (some (c : Int))).time] 118)).offp k9 (fun e => by have := hby _ e; omega)
      have d9 : W9.cell? ⟨w.heap.size + 1, 2, none⟩ = some (.slice a (List.length xs) cp) := p9.cell (i := 2) rfl
      have f9 := p9.thaw 2
      have q9 := p9.lt
      have kX := Offp.of_only ((Only.refl (w.heap.size + 1) W9).set 2 (.slice a2 (xs.length + 1) c2))
      have HC10 := hidP (((HC5e.out.below (alloc0 (Below.refl _ _) (.cells #[Value.int .i64 (elIt l (some (c : Int))).off, Value.string (elIt l (some (c : Int))).key, Value.string (elIt l (some (c : Int))).text, Value.int .i64 (elIt l (some (c : Int))).who, Value.int .i64 (elIt l (some (c : Int))).time] 118))).offp k9 (fun y e => by have := hby y e; omega)).offp kX (fun y e => by subst e; omega))
      have HO10 := hidP (owns_offp own9 kX (fun y hy e => by have := own9.lt y hy; omega))
      have Hpr10 := hidP (((Hpr5e.out.alloc (.cells #[Value.int .i64 (elIt l (some (c : Int))).off, Value.string (elIt l (some (c : Int))).key, Value.string (elIt l (some (c : Int))).text, Value.int .i64 (elIt l (some (c : Int))).who, Value.int .i64 (elIt l (some (c : Int))).time] 118)).offp k9 (fun e => by have := hby _ e; omega)).offp kX (by show ¬ _ = _; omega))
      have Hpx10 := hidP (p9.setAt 2 (.slice a2 (xs.length + 1) c2))
      have hxk2 : Hid ((xs ++ [elIt l (some (c : Int))]).length = k + 1) := by show _ = _; have := hxk.out; simp; omega
      have hln : (xs ++ [elIt l (some (c : Int))]).length = xs.length + 1 := by simp
      rw [hln] at HO10
      clear hs8 own9 k9 hby p9 kX HC5e HO5e Hpr5e Hpx5e Hpe5 hxl hxk cok' crl hob
      go_wp2_with (at_builtin; refine wpList_append_is rfl _ _ _ rfl _ _ _ rfl rfl hr9 ?_)
      exact ⟨⟨k + 1, c2, a2, xs ++ [elIt l (some (c : Int))], stIt l (some (c : Int)), by go_num, by omega, hxk2, HC10, by rw [hln]; exact HO10, Hpr10, by rw [hln]; exact Hpx10, HLk'⟩, by simp [intOf]; omega⟩
    · have hG := HLk.out.done hk hent
      have hP := HLk.out.pos
      have hor : (¬ (k : Int) < (n : Int)) ∨ ((k : Int) < (n : Int) ∧ o.isSome = false) := by
        by_cases hkn : k < n
        · right
          refine ⟨by omega, ?_⟩
          cases hos : o.isSome with
          | false => rfl
          | true => exact absurd ⟨hkn, hos⟩ hent
        · left; omega
      have HN : Hid (Rel (getRw l) c0 (⟨(nV (hl7Row1 l o0) : Int), (nV (hl7Row2 l o0) : Int), xs⟩ : PR) o) := by
        have e := Ho0.out
        subst e
        exact Rel.of_map (linkl7Row l c0 xs o (by rw [HG0.out]; exact hG)) hP
      clear hent HLk hklen hxl hG hP
      rcases hor with hkn | ⟨hkn, hos⟩
      · clear cok
        have e0s : True := trivial
        have e0 : wr.cell? ⟨w.heap.size + 1, 0, none⟩ = some (Value.int .i64 (nV (hl7Row1 l o0) : Int)) := Hpx.out.cell (i := 0) rfl
        have e1 : wr.cell? ⟨w.heap.size + 1, 1, none⟩ = some (Value.int .i64 (nV (hl7Row2 l o0) : Int)) := Hpx.out.cell (i := 1) rfl
        have e2 : wr.cell? ⟨w.heap.size + 1, 2, none⟩ = some (Value.slice a (List.length xs) cp) := Hpx.out.cell (i := 2) rfl
        have qx := Hpx.out.lt
        have r0 : wr.cell? ⟨w.heap.size, 0, none⟩ = some (.int .i64 0) := Hpr.out.cell (i := 0) rfl
        have z0 := Hpr.out.thaw 0
        have r1 : wr.cell? ⟨w.heap.size, 1, none⟩ = some (.int .i64 0) := Hpr.out.cell (i := 1) rfl
        have z1 := Hpr.out.thaw 1
        have r2 : wr.cell? ⟨w.heap.size, 2, none⟩ = some (.slice none 0 0) := Hpr.out.cell (i := 2) rfl
        have z2 := Hpr.out.thaw 2
        have qr := Hpr.out.lt
        have oA := ((((Only.refl w.heap.size wr).set 0 (Value.int .i64 (nV (hl7Row1 l o0) : Int))).set 1 (Value.int .i64 (nV (hl7Row2 l o0) : Int))).set 2 (Value.slice a (List.length xs) cp))
        have HCz := hidP (HC.out.offp (Offp.of_only oA) (fun x e => by subst e; exact Nat.le_refl _))
        have HOz := hidP (owns_only' HO.out oA (by omega))
        clear oA HC HO Hpr Hpx
        go_wp2
        refine bodyPost_ret (v := .agg #[Value.int .i64 (nV (hl7Row1 l o0) : Int), Value.int .i64 (nV (hl7Row2 l o0) : Int), Value.slice a (List.length xs) cp]) (by simp [results, Tryz.results37, go_sem, r0, r1, r2]) rfl ?_
        exact ⟨⟨(nV (hl7Row1 l o0) : Int), (nV (hl7Row2 l o0) : Int), xs⟩, a, cp, rfl, HCz.out.only, owns_mono HOz.out (by omega), o, HCz.out.cu, HN.out⟩
      · rw [hos] at cok
        have e0s : True := trivial
        have e0 : wr.cell? ⟨w.heap.size + 1, 0, none⟩ = some (Value.int .i64 (nV (hl7Row1 l o0) : Int)) := Hpx.out.cell (i := 0) rfl
        have e1 : wr.cell? ⟨w.heap.size + 1, 1, none⟩ = some (Value.int .i64 (nV (hl7Row2 l o0) : Int)) := Hpx.out.cell (i := 1) rfl
        have e2 : wr.cell? ⟨w.heap.size + 1, 2, none⟩ = some (Value.slice a (List.length xs) cp) := Hpx.out.cell (i := 2) rfl
        have qx := Hpx.out.lt
        have r0 : wr.cell? ⟨w.heap.size, 0, none⟩ = some (.int .i64 0) := Hpr.out.cell (i := 0) rfl
        have z0 := Hpr.out.thaw 0
        have r1 : wr.cell? ⟨w.heap.size, 1, none⟩ = some (.int .i64 0) := Hpr.out.cell (i := 1) rfl
        have z1 := Hpr.out.thaw 1
        have r2 : wr.cell? ⟨w.heap.size, 2, none⟩ = some (.slice none 0 0) := Hpr.out.cell (i := 2) rfl
        have z2 := Hpr.out.thaw 2
        have qr := Hpr.out.lt
        have oA := ((((Only.refl w.heap.size wr).set 0 (Value.int .i64 (nV (hl7Row1 l o0) : Int))).set 1 (Value.int .i64 (nV (hl7Row2 l o0) : Int))).set 2 (Value.slice a (List.length xs) cp))
        have HCz := hidP (HC.out.offp (Offp.of_only oA) (fun x e => by subst e; exact Nat.le_refl _))
        have HOz := hidP (owns_only' HO.out oA (by omega))
        clear oA HC HO Hpr Hpx
        go_wp2
        refine bodyPost_ret (v := .agg #[Value.int .i64 (nV (hl7Row1 l o0) : Int), Value.int .i64 (nV (hl7Row2 l o0) : Int), Value.slice a (List.length xs) cp]) (by simp [results, Tryz.results37, go_sem, r0, r1, r2]) rfl ?_
        exact ⟨⟨(nV (hl7Row1 l o0) : Int), (nV (hl7Row2 l o0) : Int), xs⟩, a, cp, rfl, HCz.out.only, owns_mono HOz.out (by omega), o, HCz.out.cu, HN.out⟩

def eMk1 (l : List UInt8) (o : Option Int) := nS l (o)
def eMk2 (l : List UInt8) (o : Option Int) := nS l (nO (eMk1 l o))
def elMk (l : List UInt8) (o : Option Int) : Mk := ⟨(nV (eMk1 l o) : Int), (nV (eMk2 l o) : Int)⟩
def stMk (l : List UInt8) (o : Option Int) : Option Int := nO (eMk2 l o)
theorem stpMk (l : List UInt8) : Stp (getMk l) (elMk l) (stMk l) := by
  intro c
  cases h1 : getN l (c : Int) with
  | none => exact .inl ⟨by simp [getMk, h1], by simp [stMk, eMk1, eMk2, nS, tS, nO, h1]⟩
  | some p1 =>
  obtain ⟨v1, c1⟩ := p1
  cases h2 : getN l (c1 : Int) with
  | none => exact .inl ⟨by simp [getMk, h1, h2], by simp [stMk, eMk1, eMk2, nS, tS, nO, h1, h2]⟩
  | some p2 =>
  obtain ⟨v2, c2⟩ := p2
  exact .inr ⟨c2, by simp [getMk, elMk, eMk1, eMk2, nS, tS, nO, nV, tV, h1, h2], by simp [stMk, eMk1, eMk2, nS, tS, nO, h1, h2]⟩

def hl7Maker1 (l : List UInt8) (o : Option Int) := nS l (o)
def hl7Maker2 (l : List UInt8) (o : Option Int) := nS l (nO (hl7Maker1 l o))
def hl7Maker3 (l : List UInt8) (o : Option Int) := nS l (nO (hl7Maker2 l o))
def hl7Maker4 (l : List UInt8) (o : Option Int) := nS l (nO (hl7Maker3 l o))
def hl7Maker5 (l : List UInt8) (o : Option Int) := nS l (nO (hl7Maker4 l o))
theorem linkl7Maker (l : List UInt8) (c : Nat) (xs : List Mk) (o : Option Int) (h : gl l (getMk l) (nO (hl7Maker4 l (some (c : Int)))) = o.map fun c => (xs, c.toNat)) : getMr l (c : Int) = o.map fun d => (⟨(nV (hl7Maker1 l (some (c : Int))) : Int), (nV (hl7Maker2 l (some (c : Int))) : Int), (nV (hl7Maker3 l (some (c : Int))) : Int), (nV (hl7Maker4 l (some (c : Int))) : Int) - 1, xs⟩, d.toNat) := by
  unfold getMr
  cases h1 : getN l (c : Int) with
  | none =>
    have e : gl l (getMk l) (nO (hl7Maker4 l (some (c : Int)))) = none := by simp [gl, hl7Maker1, hl7Maker2, hl7Maker3, hl7Maker4, hl7Maker5, nS, nO, h1]
    rw [e] at h
    cases o with
    | none => rfl
    | some d => cases h
  | some p1 =>
  obtain ⟨v1, c1⟩ := p1
  cases h2 : getN l (c1 : Int) with
  | none =>
    have e : gl l (getMk l) (nO (hl7Maker4 l (some (c : Int)))) = none := by simp [gl, hl7Maker1, hl7Maker2, hl7Maker3, hl7Maker4, hl7Maker5, nS, nO, h1, h2]
    rw [e] at h
    cases o with
    | none => simp only [h2]; rfl
    | some d => cases h
  | some p2 =>
  obtain ⟨v2, c2⟩ := p2
  cases h3 : getN l (c2 : Int) with
  | none =>
    have e : gl l (getMk l) (nO (hl7Maker4 l (some (c : Int)))) = none := by simp [gl, hl7Maker1, hl7Maker2, hl7Maker3, hl7Maker4, hl7Maker5, nS, nO, h1, h2, h3]
    rw [e] at h
    cases o with
    | none => simp only [h2, h3]; rfl
    | some d => cases h
  | some p3 =>
  obtain ⟨v3, c3⟩ := p3
  cases h4 : getN l (c3 : Int) with
  | none =>
    have e : gl l (getMk l) (nO (hl7Maker4 l (some (c : Int)))) = none := by simp [gl, hl7Maker1, hl7Maker2, hl7Maker3, hl7Maker4, hl7Maker5, nS, nO, h1, h2, h3, h4]
    rw [e] at h
    cases o with
    | none => simp only [h2, h3, h4]; rfl
    | some d => cases h
  | some p4 =>
  obtain ⟨v4, c4⟩ := p4
  have e : gl l (getMk l) (nO (hl7Maker4 l (some (c : Int)))) = getList l (getMk l) (c4 : Int) := by simp [gl, hl7Maker1, hl7Maker2, hl7Maker3, hl7Maker4, hl7Maker5, nS, nO, h1, h2, h3, h4]
  rw [e] at h
  simp only [h2, h3, h4]
  rw [h]
  cases o with
  | none => rfl
  | some d => simp [hl7Maker1, hl7Maker2, hl7Maker3, hl7Maker4, hl7Maker5, nS, nO, nV, h1, h2, h3, h4]
set_option maxRecDepth 100000 in
set_option maxHeartbeats 8000000 in
theorem l7Maker_any (r : Nat) (A : Option Addr) (cap : Nat) (l : List UInt8) (hl : l.length ≤ 1048576) (hcap : l.length ≤ cap) (hcm : cap ≤ 9223372036854775807) (c0 : Nat) (w : World) (h : CuO w r A cap l (some (c0 : Int))) :
    Calls Tryz.prog 38 #[.pointer (some ⟨r, 0, none⟩)] w fun e w' => ∃ (x : PM) (aa : Option Addr) (cc : Nat), e = .returned (.agg #[.int .i64 x.row, .int .i64 x.who, .int .i64 x.epoch, .int .i64 x.last, .slice aa (List.length x.ms) cc]) ∧ Only r w w' ∧ w'.ownsRow w.heap.size 120 2 (.slice aa (List.length x.ms) cc) (List.length x.ms) (flat x.ms) ∧ ∃ (o' : Option Int), CuO w' r A cap l o' ∧ Rel (getMr l) c0 x o' := by
  have hr := h.far.1
  obtain ⟨o0, ho0⟩ : ∃ o0, some (c0 : Int) = o0 := ⟨_, rfl⟩
  have Ho0 := hidP ho0
  rw [ho0] at h
  clear ho0
  have px0 := Blk.new (w.alloc (.cells #[.int .i64 0, .int .i64 0, .int .i64 0, .int .i64 0, .slice none 0 0] 71)) 71 #[.int .i64 0, .int .i64 0, .int .i64 0, .int .i64 0, .slice none 0 0]
  have pr0 := (Blk.new w 71 #[.int .i64 0, .int .i64 0, .int .i64 0, .int .i64 0, .slice none 0 0]).alloc (.cells #[.int .i64 0, .int .i64 0, .int .i64 0, .int .i64 0, .slice none 0 0] 71)
  simp only [World.size_alloc] at px0
  have HC0 := hidP ((CB.start h).below (alloc0 (alloc0 (Below.refl _ w) (.cells #[.int .i64 0, .int .i64 0, .int .i64 0, .int .i64 0, .slice none 0 0] 71)) (.cells #[.int .i64 0, .int .i64 0, .int .i64 0, .int .i64 0, .slice none 0 0] 71)))
  have Hpx0 := hidP px0
  have Hpr0 := hidP pr0
  clear px0 pr0 h
  go_enter Tryz.func38, Tryz.ntmps38
  go_wp2_with fail
  refine (l7Num_any r A cap l hl (o0) _ HC0.out.cu).mono ?_
  rintro e w1 ⟨rfl, o1, h1⟩
  have hn1 : nV (hl7Maker1 l o0) ≤ 2147483647 := nV_le l _
  have hv1 : nV (nS l (o0)) = nV (hl7Maker1 l o0) := rfl
  rw [hv1]
  clear hv1
  have p1 : Blk w1 (w.heap.size + 1) 71 #[.int .i64 0, .int .i64 0, .int .i64 0, .int .i64 0, .slice none 0 0] := Hpx0.out.only o1 (by omega)
  have g1 := Hpr0.out.only o1 (by omega)
  have d1 : w1.cell? ⟨w.heap.size + 1, 0, none⟩ = some (.int .i64 0) := p1.cell (i := 0) rfl
  have f1 := p1.thaw 0
  have q1' := p1.lt
  have Hpx1 : Hid (Blk (w1.setCell ⟨w.heap.size + 1, 0, none⟩ (Value.int .i64 (nV (hl7Maker1 l o0) : Int))) (w.heap.size + 1) 71 #[Value.int .i64 (nV (hl7Maker1 l o0) : Int), .int .i64 0, .int .i64 0, .int .i64 0, .slice none 0 0]) := hidP (p1.setAt 0 (Value.int .i64 (nV (hl7Maker1 l o0) : Int)))
  have Hpr1 := hidP (g1.other (show w.heap.size ≠ w.heap.size + 1 by omega) 0 (Value.int .i64 (nV (hl7Maker1 l o0) : Int)))
  have HC1 := hidP ((HC0.out.call o1 (show CuO w1 r A cap l (nO (hl7Maker1 l o0)) from h1)).offp (Offp.of_only ((Only.refl (w.heap.size + 1) w1).set 0 (Value.int .i64 (nV (hl7Maker1 l o0) : Int)))) (fun x e => by subst e; omega))
  clear o1 h1 p1 g1 HC0 Hpx0 Hpr0
  go_wp2_with fail
  refine (l7Num_any r A cap l hl (nO (hl7Maker1 l o0)) _ HC1.out.cu).mono ?_
  rintro e w2 ⟨rfl, o2, h2⟩
  have hn2 : nV (hl7Maker2 l o0) ≤ 2147483647 := nV_le l _
  have hv2 : nV (nS l (nO (hl7Maker1 l o0))) = nV (hl7Maker2 l o0) := rfl
  rw [hv2]
  clear hv2
  have p2 : Blk w2 (w.heap.size + 1) 71 #[Value.int .i64 (nV (hl7Maker1 l o0) : Int), .int .i64 0, .int .i64 0, .int .i64 0, .slice none 0 0] := Hpx1.out.only o2 (by omega)
  have g2 := Hpr1.out.only o2 (by omega)
  have d2 : w2.cell? ⟨w.heap.size + 1, 1, none⟩ = some (.int .i64 0) := p2.cell (i := 1) rfl
  have f2 := p2.thaw 1
  have q2' := p2.lt
  have Hpx2 : Hid (Blk (w2.setCell ⟨w.heap.size + 1, 1, none⟩ (Value.int .i64 (nV (hl7Maker2 l o0) : Int))) (w.heap.size + 1) 71 #[Value.int .i64 (nV (hl7Maker1 l o0) : Int), Value.int .i64 (nV (hl7Maker2 l o0) : Int), .int .i64 0, .int .i64 0, .slice none 0 0]) := hidP (p2.setAt 1 (Value.int .i64 (nV (hl7Maker2 l o0) : Int)))
  have Hpr2 := hidP (g2.other (show w.heap.size ≠ w.heap.size + 1 by omega) 1 (Value.int .i64 (nV (hl7Maker2 l o0) : Int)))
  have HC2 := hidP ((HC1.out.call o2 (show CuO w2 r A cap l (nO (hl7Maker2 l o0)) from h2)).offp (Offp.of_only ((Only.refl (w.heap.size + 1) w2).set 1 (Value.int .i64 (nV (hl7Maker2 l o0) : Int)))) (fun x e => by subst e; omega))
  clear o2 h2 p2 g2 HC1 Hpx1 Hpr1 d1 f1 q1'
  go_wp2_with fail
  refine (l7Num_any r A cap l hl (nO (hl7Maker2 l o0)) _ HC2.out.cu).mono ?_
  rintro e w3 ⟨rfl, o3, h3⟩
  have hn3 : nV (hl7Maker3 l o0) ≤ 2147483647 := nV_le l _
  have hv3 : nV (nS l (nO (hl7Maker2 l o0))) = nV (hl7Maker3 l o0) := rfl
  rw [hv3]
  clear hv3
  have p3 : Blk w3 (w.heap.size + 1) 71 #[Value.int .i64 (nV (hl7Maker1 l o0) : Int), Value.int .i64 (nV (hl7Maker2 l o0) : Int), .int .i64 0, .int .i64 0, .slice none 0 0] := Hpx2.out.only o3 (by omega)
  have g3 := Hpr2.out.only o3 (by omega)
  have d3 : w3.cell? ⟨w.heap.size + 1, 2, none⟩ = some (.int .i64 0) := p3.cell (i := 2) rfl
  have f3 := p3.thaw 2
  have q3' := p3.lt
  have Hpx3 : Hid (Blk (w3.setCell ⟨w.heap.size + 1, 2, none⟩ (Value.int .i64 (nV (hl7Maker3 l o0) : Int))) (w.heap.size + 1) 71 #[Value.int .i64 (nV (hl7Maker1 l o0) : Int), Value.int .i64 (nV (hl7Maker2 l o0) : Int), Value.int .i64 (nV (hl7Maker3 l o0) : Int), .int .i64 0, .slice none 0 0]) := hidP (p3.setAt 2 (Value.int .i64 (nV (hl7Maker3 l o0) : Int)))
  have Hpr3 := hidP (g3.other (show w.heap.size ≠ w.heap.size + 1 by omega) 2 (Value.int .i64 (nV (hl7Maker3 l o0) : Int)))
  have HC3 := hidP ((HC2.out.call o3 (show CuO w3 r A cap l (nO (hl7Maker3 l o0)) from h3)).offp (Offp.of_only ((Only.refl (w.heap.size + 1) w3).set 2 (Value.int .i64 (nV (hl7Maker3 l o0) : Int)))) (fun x e => by subst e; omega))
  clear o3 h3 p3 g3 HC2 Hpx2 Hpr2 d2 f2 q2'
  go_wp2_with fail
  refine (l7Num_any r A cap l hl (nO (hl7Maker3 l o0)) _ HC3.out.cu).mono ?_
  rintro e w4 ⟨rfl, o4, h4⟩
  have hn4 : nV (hl7Maker4 l o0) ≤ 2147483647 := nV_le l _
  have hv4 : nV (nS l (nO (hl7Maker3 l o0))) = nV (hl7Maker4 l o0) := rfl
  rw [hv4]
  clear hv4
  have p4 : Blk w4 (w.heap.size + 1) 71 #[Value.int .i64 (nV (hl7Maker1 l o0) : Int), Value.int .i64 (nV (hl7Maker2 l o0) : Int), Value.int .i64 (nV (hl7Maker3 l o0) : Int), .int .i64 0, .slice none 0 0] := Hpx3.out.only o4 (by omega)
  have g4 := Hpr3.out.only o4 (by omega)
  have d4 : w4.cell? ⟨w.heap.size + 1, 3, none⟩ = some (.int .i64 0) := p4.cell (i := 3) rfl
  have f4 := p4.thaw 3
  have q4' := p4.lt
  have Hpx4 : Hid (Blk (w4.setCell ⟨w.heap.size + 1, 3, none⟩ (Value.int .i64 ((nV (hl7Maker4 l o0) : Int) - 1))) (w.heap.size + 1) 71 #[Value.int .i64 (nV (hl7Maker1 l o0) : Int), Value.int .i64 (nV (hl7Maker2 l o0) : Int), Value.int .i64 (nV (hl7Maker3 l o0) : Int), Value.int .i64 ((nV (hl7Maker4 l o0) : Int) - 1), .slice none 0 0]) := hidP (p4.setAt 3 (Value.int .i64 ((nV (hl7Maker4 l o0) : Int) - 1)))
  have Hpr4 := hidP (g4.other (show w.heap.size ≠ w.heap.size + 1 by omega) 3 (Value.int .i64 ((nV (hl7Maker4 l o0) : Int) - 1)))
  have HC4 := hidP ((HC3.out.call o4 (show CuO w4 r A cap l (nO (hl7Maker4 l o0)) from h4)).offp (Offp.of_only ((Only.refl (w.heap.size + 1) w4).set 3 (Value.int .i64 ((nV (hl7Maker4 l o0) : Int) - 1)))) (fun x e => by subst e; omega))
  clear o4 h4 p4 g4 HC3 Hpx3 Hpr3 d3 f3 q3'
  go_wp2_with fail
  refine (l7Num_any r A cap l hl (nO (hl7Maker4 l o0)) _ HC4.out.cu).mono ?_
  rintro e w5 ⟨rfl, o5, h5⟩
  have hn5 : nV (hl7Maker5 l o0) ≤ 2147483647 := nV_le l _
  have hv5 : nV (nS l (nO (hl7Maker4 l o0))) = nV (hl7Maker5 l o0) := rfl
  rw [hv5]
  clear hv5
  have HpxL := hidP (Hpx4.out.only o5 (by omega))
  have HprL := hidP (Hpr4.out.only o5 (by omega))
  have HCL := hidP (HC4.out.call o5 (show CuO w5 r A cap l (nO (hl7Maker5 l o0)) from h5))
  have HL0 : Hid (LkG (getMk l) l.length (gl l (getMk l) (nO (hl7Maker4 l o0))) (nV (hl7Maker5 l o0)) 0 [] (nO (hl7Maker5 l o0))) := hidP (LkG.start l (getMk l) (nO (hl7Maker4 l o0)))
  obtain ⟨G0, hG0⟩ : ∃ G0, gl l (getMk l) (nO (hl7Maker4 l o0)) = G0 := ⟨_, rfl⟩
  rw [hG0] at HL0
  have HG0 := hidP hG0
  have HO0 : Hid (w5.ownsRow (w.heap.size + 2) 120 2 (.slice none ([] : List Mk).length 0) ([] : List Mk).length (flat ([] : List Mk))) := hidP (World.ownsRow_nil _ _ _ _)
  clear o5 h5 HC4 Hpx4 Hpr4 d4 f4 q4' hG0
  generalize nV (hl7Maker5 l o0) = n at *
  generalize nO (hl7Maker5 l o0) = oL at *
  go_wp2
  go_loopw [5] (fun v4 W => ∃ (k : Nat) (cp : Nat) (a : Option Addr) (xs : List Mk) (o : Option Int), v4 = .int .i64 (k : Int) ∧ k ≤ n ∧ Hid (xs.length = k) ∧ Hid (CB w W r A cap l o) ∧ Hid (W.ownsRow (w.heap.size + 2) 120 2 (.slice a xs.length cp) xs.length (flat xs)) ∧ Hid (Blk W w.heap.size 71 #[.int .i64 0, .int .i64 0, .int .i64 0, .int .i64 0, .slice none 0 0]) ∧ Hid (Blk W (w.heap.size + 1) 71 #[Value.int .i64 (nV (hl7Maker1 l o0) : Int), Value.int .i64 (nV (hl7Maker2 l o0) : Int), Value.int .i64 (nV (hl7Maker3 l o0) : Int), Value.int .i64 ((nV (hl7Maker4 l o0) : Int) - 1), .slice a xs.length cp]) ∧ Hid (LkG (getMk l) l.length G0 n k xs o)) (fun v4 _ => n - (intOf v4).toNat)
  case atStart => exact ⟨0, 0, none, [], oL, rfl, by omega, rfl, HCL, HO0, HprL, HpxL, HL0⟩
  case round =>
    clear HCL HO0 HprL HpxL HL0
    obtain ⟨k, cp, a, xs, o, rfl, hk, hxk, HC, HO, Hpr, Hpx, HLk⟩ := hrel
    have hklen := HLk.out.le
    have hxl : Hid (xs.length ≤ 2000000) := by show _ ≤ _; have := hxk.out; omega
    obtain ⟨cok, crl⟩ := HC.out.ok
    by_cases hent : k < n ∧ o.isSome = true
    · obtain ⟨hkn, hos⟩ := hent
      have hkn' : (k : Int) < (n : Int) := by omega
      obtain ⟨c, rfl⟩ := HLk.out.place hos
      have HLk' := hidP (HLk.out.next (fun i x d h => getMk_le h) ((stpMk l).rel c) hkn)
      have HC0e := hidP (HC.out.below (alloc0 (Below.refl _ wr) (.cells #[.int .i64 0, .int .i64 0] 120)))
      have Hpe0 := hidP (Blk.new wr 120 #[.int .i64 0, .int .i64 0])
      have HO0e := hidP (owns_alloc HO.out (.cells #[.int .i64 0, .int .i64 0] 120))
      have Hpr0e := hidP (Hpr.out.alloc (.cells #[.int .i64 0, .int .i64 0] 120))
      have Hpx0e := hidP (Hpx.out.alloc (.cells #[.int .i64 0, .int .i64 0] 120))
      have hob : Hid (∀ y, (Value.slice a xs.length cp).ownBlock = some y → w.heap.size + 2 ≤ y ∧ y < wr.heap.size) := hidP (fun y hy => HO.out.lt y hy)
      have hbw : w.heap.size + 2 ≤ wr.heap.size := Hpx.out.lt
      obtain ⟨eb, heb⟩ : ∃ eb, wr.heap.size = eb := ⟨_, rfl⟩
      clear hklen HLk HC HO Hpr Hpx
      have cok' : wr.cell? ⟨r, 2, none⟩ = some (.bool true) := cok
      clear cok
      go_wp2_with fail
      refine (l7Num_any r A cap l hl (some (c : Int)) _ HC0e.out.cu).mono ?_
      rintro e w1e ⟨rfl, o1, h1⟩
      rw [heb] at Hpe0 hob hbw
      have ne1 : eb ≠ r := by omega
      have hnv1 := nV_le l (some (c : Int))
      have xt1 : (elMk l (some (c : Int))).seq = (nV (nS l (some (c : Int))) : Int) := rfl
      rw [← xt1]
      have pe1 : Blk w1e eb 120 #[.int .i64 0, .int .i64 0] := Hpe0.out.only o1 ne1
      have hd1 : w1e.cell? ⟨eb, 0, none⟩ = some (.int .i64 0) := pe1.cell (i := 0) rfl
      have hf1 := pe1.thaw 0
      have hq1 := pe1.lt
      have kz := Offp.of_only ((Only.refl eb w1e).set 0 (Value.int .i64 (elMk l (some (c : Int))).seq))
      have HC1e := hidP ((HC0e.out.call o1 (show CuO w1e r A cap l (nO (eMk1 l (some (c : Int)))) from h1)).offp kz (fun x e => by subst e; omega))
      have HO1e := hidP (owns_offp (owns_only' HO0e.out o1 (by omega)) kz (fun y hy e => by have := hob.out y hy; omega))
      have Hpr1e := hidP ((Hpr0e.out.only o1 (by omega)).offp kz (by show ¬ _ = _; omega))
      have Hpx1e := hidP ((Hpx0e.out.only o1 (by omega)).offp kz (by show ¬ _ = _; omega))
      have Hpe1 : Hid (Blk (w1e.setCell ⟨eb, 0, none⟩ (Value.int .i64 (elMk l (some (c : Int))).seq)) eb 120 #[Value.int .i64 (elMk l (some (c : Int))).seq, .int .i64 0]) := hidP (pe1.setAt 0 (Value.int .i64 (elMk l (some (c : Int))).seq))
      clear o1 h1 pe1 kz HC0e HO0e Hpr0e Hpx0e Hpe0 xt1
      go_wp2_with fail
      refine (l7Num_any r A cap l hl (nO (eMk1 l (some (c : Int)))) _ HC1e.out.cu).mono ?_
      rintro e w2e ⟨rfl, o2, h2⟩
      have ne2 : eb ≠ r := by omega
      have hnv2 := nV_le l (nO (eMk1 l (some (c : Int))))
      have xt2 : (elMk l (some (c : Int))).off = (nV (nS l (nO (eMk1 l (some (c : Int))))) : Int) := rfl
      rw [← xt2]
      have pe2 : Blk w2e eb 120 #[Value.int .i64 (elMk l (some (c : Int))).seq, .int .i64 0] := Hpe1.out.only o2 ne2
      have hd2 : w2e.cell? ⟨eb, 1, none⟩ = some (.int .i64 0) := pe2.cell (i := 1) rfl
      have hf2 := pe2.thaw 1
      have hq2 := pe2.lt
      have kz := Offp.of_only ((Only.refl eb w2e).set 1 (Value.int .i64 (elMk l (some (c : Int))).off))
      have HC2e := hidP ((HC1e.out.call o2 (show CuO w2e r A cap l (nO (eMk2 l (some (c : Int)))) from h2)).offp kz (fun x e => by subst e; omega))
      have HO2e := hidP (owns_offp (owns_only' HO1e.out o2 (by omega)) kz (fun y hy e => by have := hob.out y hy; omega))
      have Hpr2e := hidP ((Hpr1e.out.only o2 (by omega)).offp kz (by show ¬ _ = _; omega))
      have Hpx2e := hidP ((Hpx1e.out.only o2 (by omega)).offp kz (by show ¬ _ = _; omega))
      have Hpe2 : Hid (Blk (w2e.setCell ⟨eb, 1, none⟩ (Value.int .i64 (elMk l (some (c : Int))).off)) eb 120 #[Value.int .i64 (elMk l (some (c : Int))).seq, Value.int .i64 (elMk l (some (c : Int))).off]) := hidP (pe2.setAt 1 (Value.int .i64 (elMk l (some (c : Int))).off))
      clear o2 h2 pe2 kz HC1e HO1e Hpr1e Hpx1e Hpe1 xt2 hd1 hf1 hq1
      have hs8 : (w2e.setCell ⟨eb, 1, none⟩ (Value.int .i64 (elMk l (some (c : Int))).off)).heap.size = w2e.heap.size := by simp
      obtain ⟨a2, c2, W9, hr9, own9, k9, hby⟩ := app_el (α := Mk) (pg := Tryz.prog) (z := .agg #[.int .i64 0, .int .i64 0]) Tryz.underlying69 infoMk rfl (by decide) (by decide) HO2e.out (by rw [hs8]; omega) (elMk l (some (c : Int))) #[Value.int .i64 (elMk l (some (c : Int))).seq, Value.int .i64 (elMk l (some (c : Int))).off] rfl hxl.out
      rw [hs8] at hr9
      have hne1 : eb ≠ w.heap.size + 1 := by omega
      have hne2 : w.heap.size + 1 ≠ eb := by omega
      have y0 : (w2e.setCell ⟨eb, 1, none⟩ (Value.int .i64 (elMk l (some (c : Int))).off)).cell? ⟨eb, 0, none⟩ = some (Value.int .i64 (elMk l (some (c : Int))).seq) := Hpe2.out.cell (i := 0) rfl
      have y1 : (w2e.setCell ⟨eb, 1, none⟩ (Value.int .i64 (elMk l (some (c : Int))).off)).cell? ⟨eb, 1, none⟩ = some (Value.int .i64 (elMk l (some (c : Int))).off) := Hpe2.out.cell (i := 1) rfl
      have b4 : (w2e.setCell ⟨eb, 1, none⟩ (Value.int .i64 (elMk l (some (c : Int))).off)).cell? ⟨w.heap.size + 1, 4, none⟩ = some (.slice a (List.length xs) cp) := Hpx2e.out.cell (i := 4) rfl
      have qx := Hpx2e.out.lt
      have qe := Hpe2.out.lt
      have p9 := (Hpx2e.out.alloc (.cells #[Value.int .i64 (elMk l (some (c : Int))).seq, Value.int .i64 (elMk l (some (c : Int))).off] 120)).offp k9 (fun e => by have := hby _ e; omega)
      have d9 : W9.cell? ⟨w.heap.size + 1, 4, none⟩ = some (.slice a (List.length xs) cp) := p9.cell (i := 4) rfl
      have f9 := p9.thaw 4
      have q9 := p9.lt
      have kX := Offp.of_only ((Only.refl (w.heap.size + 1) W9).set 4 (.slice a2 (xs.length + 1) c2))
      have HC10 := hidP (((HC2e.out.below (alloc0 (Below.refl _ _) (.cells #[Value.int .i64 (elMk l (some (c : Int))).seq, Value.int .i64 (elMk l (some (c : Int))).off] 120))).offp k9 (fun y e => by have := hby y e; omega)).offp kX (fun y e => by subst e; omega))
      have HO10 := hidP (owns_offp own9 kX (fun y hy e => by have := own9.lt y hy; omega))
      have Hpr10 := hidP (((Hpr2e.out.alloc (.cells #[Value.int .i64 (elMk l (some (c : Int))).seq, Value.int .i64 (elMk l (some (c : Int))).off] 120)).offp k9 (fun e => by have := hby _ e; omega)).offp kX (by show ¬ _ = _; omega))
      have Hpx10 := hidP (p9.setAt 4 (.slice a2 (xs.length + 1) c2))
      have hxk2 : Hid ((xs ++ [elMk l (some (c : Int))]).length = k + 1) := by show _ = _; have := hxk.out; simp; omega
      have hln : (xs ++ [elMk l (some (c : Int))]).length = xs.length + 1 := by simp
      rw [hln] at HO10
      clear hs8 own9 k9 hby p9 kX HC2e HO2e Hpr2e Hpx2e Hpe2 hxl hxk cok' crl hob
      go_wp2_with (at_builtin; refine wpList_append_is rfl _ _ _ rfl _ _ _ rfl rfl hr9 ?_)
      exact ⟨⟨k + 1, c2, a2, xs ++ [elMk l (some (c : Int))], stMk l (some (c : Int)), by go_num, by omega, hxk2, HC10, by rw [hln]; exact HO10, Hpr10, by rw [hln]; exact Hpx10, HLk'⟩, by simp [intOf]; omega⟩
    · have hG := HLk.out.done hk hent
      have hP := HLk.out.pos
      have hor : (¬ (k : Int) < (n : Int)) ∨ ((k : Int) < (n : Int) ∧ o.isSome = false) := by
        by_cases hkn : k < n
        · right
          refine ⟨by omega, ?_⟩
          cases hos : o.isSome with
          | false => rfl
          | true => exact absurd ⟨hkn, hos⟩ hent
        · left; omega
      have HN : Hid (Rel (getMr l) c0 (⟨(nV (hl7Maker1 l o0) : Int), (nV (hl7Maker2 l o0) : Int), (nV (hl7Maker3 l o0) : Int), (nV (hl7Maker4 l o0) : Int) - 1, xs⟩ : PM) o) := by
        have e := Ho0.out
        subst e
        exact Rel.of_map (linkl7Maker l c0 xs o (by rw [HG0.out]; exact hG)) hP
      clear hent HLk hklen hxl hG hP
      rcases hor with hkn | ⟨hkn, hos⟩
      · clear cok
        have e0s : True := trivial
        have e0 : wr.cell? ⟨w.heap.size + 1, 0, none⟩ = some (Value.int .i64 (nV (hl7Maker1 l o0) : Int)) := Hpx.out.cell (i := 0) rfl
        have e1 : wr.cell? ⟨w.heap.size + 1, 1, none⟩ = some (Value.int .i64 (nV (hl7Maker2 l o0) : Int)) := Hpx.out.cell (i := 1) rfl
        have e2 : wr.cell? ⟨w.heap.size + 1, 2, none⟩ = some (Value.int .i64 (nV (hl7Maker3 l o0) : Int)) := Hpx.out.cell (i := 2) rfl
        have e3 : wr.cell? ⟨w.heap.size + 1, 3, none⟩ = some (Value.int .i64 ((nV (hl7Maker4 l o0) : Int) - 1)) := Hpx.out.cell (i := 3) rfl
        have e4 : wr.cell? ⟨w.heap.size + 1, 4, none⟩ = some (Value.slice a (List.length xs) cp) := Hpx.out.cell (i := 4) rfl
        have qx := Hpx.out.lt
        have r0 : wr.cell? ⟨w.heap.size, 0, none⟩ = some (.int .i64 0) := Hpr.out.cell (i := 0) rfl
        have z0 := Hpr.out.thaw 0
        have r1 : wr.cell? ⟨w.heap.size, 1, none⟩ = some (.int .i64 0) := Hpr.out.cell (i := 1) rfl
        have z1 := Hpr.out.thaw 1
        have r2 : wr.cell? ⟨w.heap.size, 2, none⟩ = some (.int .i64 0) := Hpr.out.cell (i := 2) rfl
        have z2 := Hpr.out.thaw 2
        have r3 : wr.cell? ⟨w.heap.size, 3, none⟩ = some (.int .i64 0) := Hpr.out.cell (i := 3) rfl
        have z3 := Hpr.out.thaw 3
        have r4 : wr.cell? ⟨w.heap.size, 4, none⟩ = some (.slice none 0 0) := Hpr.out.cell (i := 4) rfl
        have z4 := Hpr.out.thaw 4
        have qr := Hpr.out.lt
        have oA := ((((((Only.refl w.heap.size wr).set 0 (Value.int .i64 (nV (hl7Maker1 l o0) : Int))).set 1 (Value.int .i64 (nV (hl7Maker2 l o0) : Int))).set 2 (Value.int .i64 (nV (hl7Maker3 l o0) : Int))).set 3 (Value.int .i64 ((nV (hl7Maker4 l o0) : Int) - 1))).set 4 (Value.slice a (List.length xs) cp))
        have HCz := hidP (HC.out.offp (Offp.of_only oA) (fun x e => by subst e; exact Nat.le_refl _))
        have HOz := hidP (owns_only' HO.out oA (by omega))
        clear oA HC HO Hpr Hpx
        go_wp2
        refine bodyPost_ret (v := .agg #[Value.int .i64 (nV (hl7Maker1 l o0) : Int), Value.int .i64 (nV (hl7Maker2 l o0) : Int), Value.int .i64 (nV (hl7Maker3 l o0) : Int), Value.int .i64 ((nV (hl7Maker4 l o0) : Int) - 1), Value.slice a (List.length xs) cp]) (by simp [results, Tryz.results38, go_sem, r0, r1, r2, r3, r4]) rfl ?_
        exact ⟨⟨(nV (hl7Maker1 l o0) : Int), (nV (hl7Maker2 l o0) : Int), (nV (hl7Maker3 l o0) : Int), (nV (hl7Maker4 l o0) : Int) - 1, xs⟩, a, cp, rfl, HCz.out.only, owns_mono HOz.out (by omega), o, HCz.out.cu, HN.out⟩
      · rw [hos] at cok
        have e0s : True := trivial
        have e0 : wr.cell? ⟨w.heap.size + 1, 0, none⟩ = some (Value.int .i64 (nV (hl7Maker1 l o0) : Int)) := Hpx.out.cell (i := 0) rfl
        have e1 : wr.cell? ⟨w.heap.size + 1, 1, none⟩ = some (Value.int .i64 (nV (hl7Maker2 l o0) : Int)) := Hpx.out.cell (i := 1) rfl
        have e2 : wr.cell? ⟨w.heap.size + 1, 2, none⟩ = some (Value.int .i64 (nV (hl7Maker3 l o0) : Int)) := Hpx.out.cell (i := 2) rfl
        have e3 : wr.cell? ⟨w.heap.size + 1, 3, none⟩ = some (Value.int .i64 ((nV (hl7Maker4 l o0) : Int) - 1)) := Hpx.out.cell (i := 3) rfl
        have e4 : wr.cell? ⟨w.heap.size + 1, 4, none⟩ = some (Value.slice a (List.length xs) cp) := Hpx.out.cell (i := 4) rfl
        have qx := Hpx.out.lt
        have r0 : wr.cell? ⟨w.heap.size, 0, none⟩ = some (.int .i64 0) := Hpr.out.cell (i := 0) rfl
        have z0 := Hpr.out.thaw 0
        have r1 : wr.cell? ⟨w.heap.size, 1, none⟩ = some (.int .i64 0) := Hpr.out.cell (i := 1) rfl
        have z1 := Hpr.out.thaw 1
        have r2 : wr.cell? ⟨w.heap.size, 2, none⟩ = some (.int .i64 0) := Hpr.out.cell (i := 2) rfl
        have z2 := Hpr.out.thaw 2
        have r3 : wr.cell? ⟨w.heap.size, 3, none⟩ = some (.int .i64 0) := Hpr.out.cell (i := 3) rfl
        have z3 := Hpr.out.thaw 3
        have r4 : wr.cell? ⟨w.heap.size, 4, none⟩ = some (.slice none 0 0) := Hpr.out.cell (i := 4) rfl
        have z4 := Hpr.out.thaw 4
        have qr := Hpr.out.lt
        have oA := ((((((Only.refl w.heap.size wr).set 0 (Value.int .i64 (nV (hl7Maker1 l o0) : Int))).set 1 (Value.int .i64 (nV (hl7Maker2 l o0) : Int))).set 2 (Value.int .i64 (nV (hl7Maker3 l o0) : Int))).set 3 (Value.int .i64 ((nV (hl7Maker4 l o0) : Int) - 1))).set 4 (Value.slice a (List.length xs) cp))
        have HCz := hidP (HC.out.offp (Offp.of_only oA) (fun x e => by subst e; exact Nat.le_refl _))
        have HOz := hidP (owns_only' HO.out oA (by omega))
        clear oA HC HO Hpr Hpx
        go_wp2
        refine bodyPost_ret (v := .agg #[Value.int .i64 (nV (hl7Maker1 l o0) : Int), Value.int .i64 (nV (hl7Maker2 l o0) : Int), Value.int .i64 (nV (hl7Maker3 l o0) : Int), Value.int .i64 ((nV (hl7Maker4 l o0) : Int) - 1), Value.slice a (List.length xs) cp]) (by simp [results, Tryz.results38, go_sem, r0, r1, r2, r3, r4]) rfl ?_
        exact ⟨⟨(nV (hl7Maker1 l o0) : Int), (nV (hl7Maker2 l o0) : Int), (nV (hl7Maker3 l o0) : Int), (nV (hl7Maker4 l o0) : Int) - 1, xs⟩, a, cp, rfl, HCz.out.only, owns_mono HOz.out (by omega), o, HCz.out.cu, HN.out⟩
end Go.Proofs.YtjjbbkmedpfenaaGreat.Gen
