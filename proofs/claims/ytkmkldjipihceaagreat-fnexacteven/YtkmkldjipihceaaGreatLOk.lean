/-
  Which logs are right: by the specification and by the program, the same. No condition but the length that every text has, and that there are at most 3000000 entries.
-/
import Derived.Test.YtkmkldjipihceaaGreatEnt
import Derived.Test.YtkmkldjipihceaaGreatCmdAns
import Derived.Test.YtkmkldjipihceaaGreatDkV
set_option linter.unusedVariables false
set_option linter.unusedSimpArgs false
set_option maxRecDepth 100000
set_option maxHeartbeats 8000000
set_option maxRecDepth 100000
set_option maxHeartbeats 8000000
namespace Go.Proofs.YtkmkldjipihceaaGreat.Gen
open ChangeShapes WideShapes ChangeAt RowKit Joins Deep Base
def enF (x : En) : Bool := CmdOk.okB x.who x.seq x.op x.a x.b x.c x.key x.text
def Qcq : Int -> List En -> Bool
  | _, [] => true
  | t, x :: l => inB x.term t 300 && Qcq x.term l
def logB (base bt : Int) (l : List En) : Bool := inB base 0 300 && inB bt 0 300 && decide ((l.length : Int) <= 300 - base) && Qcq bt l && l.all enF
theorem Qfd (t : Int) (l : List En) (n : Nat) (hn : n < l.length) : Qcq t (l.drop n) = (inB l[n].term t 300 && Qcq l[n].term (l.drop (n + 1))) := by
 rw [List.drop_eq_getElem_cons hn]; rfl
theorem Qd7 (f : En -> Bool) (l : List En) (n : Nat) (hn : n < l.length) : (l.drop n).all f = (f l[n] && (l.drop (n + 1)).all f) := by
 rw [List.drop_eq_getElem_cons hn]; rfl
theorem in_le {x lo hi : Int} (h : inB x lo hi = true) : lo <= x /\ x <= hi := by simpa [inB] using h
theorem Qbj (x : Int) (w : World) : Calls Tryz.prog 56 #[.int .i64 x] w fun e w' => e = .returned (.bool (inB x 0 300)) /\ w' = w := by
 go_enter Tryz.func56, Tryz.ntmps56
 go_wp2_with (go_at_call 89; refine (within_any _ _ _ _).mono ?_; rintro e w' ⟨rfl, rfl⟩)
 go_ret
 exact ⟨rfl, rfl⟩
theorem Qd9 (t0 : Int) (A : Option Addr) (cap : Nat) (l : List En) (hl : l.length <= 3000000) (w : World) (hA : At w A l) :
 Calls Tryz.prog 178 #[.int .i64 t0, .slice A l.length cap] w fun e w' => e = .returned (.bool (Qcq t0 l)) /\ Below w.heap.size w w' := by
 have HA := hidP hA
 clear hA
 go_enter Tryz.func178, Tryz.ntmps178
 go_wp2
 go_loopw [0, 9] (fun t i w' => ∃ (n : Nat) (z : Int), i = .int .i64 (n : Int) /\ t = .int .i64 z /\ n <= l.length /\ Hid (Qcq t0 l = Qcq z (l.drop n)) /\ Below w.heap.size w w') (fun _ i _ => l.length - (intOf i).toNat)
 case atStart => exact ⟨0, t0, rfl, rfl, by omega, rfl, Below.refl _ _⟩
 case round =>
  obtain ⟨n, z, rfl, rfl, hn, hz, hbl⟩ := hrel
  by_cases hlt : n < l.length
  . obtain ⟨b, o, rfl, hbs, hIn⟩ : ∃ b o, A = some ⟨b, o, none⟩ /\ b < w.heap.size /\ In w b o l := by
     rcases HA.out with h | h
     . subst h; simp at hlt
     . exact h
    obtain ⟨c0, c1, c2, c3, c4, c5, c6, c7, c8⟩ := (hIn.below hbs hbl).getEn n hlt
    have hd := hidP (hz.out.trans (Qfd z l n hlt))
    have HW : Hid (∀ W : World, Calls Tryz.prog 89 (Qa4 l[n].term z 300) W fun e w' => e = .returned (.bool (inB l[n].term z 300)) /\ w' = W) := fun W => within_any _ _ _ W
    clear hz
    generalize hb : inB l[n].term z 300 = bb at hd HW
    clear hb
    cases bb
    . go_wp2_with fail
      refine (HW.out _).mono ?_
      rintro e w1 ⟨rfl, rfl⟩
      go_wp2
      go_ret
      exact ⟨by rw [hd.out]; rfl, Qab hbl _⟩
    . go_wp2_with fail
      refine (HW.out _).mono ?_
      rintro e w1 ⟨rfl, rfl⟩
      go_wp2
      exact ⟨⟨n + 1, l[n].term, by go_num, rfl, by omega, by show _ = _; rw [hd.out]; rfl, Qab hbl _⟩, by simp [intOf]; omega⟩
  . have e : l.drop n = [] := List.drop_of_length_le (by omega)
    go_wp2
    go_ret
    have h := hz.out
    rw [e] at h
    exact ⟨by rw [h]; rfl, hbl⟩
theorem logOk1_any (x : En) (hx : x.fit) (w : World) :
 Calls Tryz.prog 179 #[.agg (Qav x.term x.who x.seq x.op x.a x.b x.c x.key x.text)] w fun e w' => e = .returned (.bool (enF x)) /\ Below w.heap.size w w' := by
 have HX := hidP hx
 clear hx
 go_enter Tryz.func179, Tryz.ntmps179
 go_wp2_with fail
 refine (CmdOk.impl_any _ _ _ _ _ _ _ _ HX.out.1 HX.out.2 _).mono ?_
 rintro e w1 ⟨rfl, g1⟩
 go_wp2
 go_ret
 exact ⟨rfl, by repeat (first | exact Below.refl _ _ | assumption | refine via0 (by assumption) ?_ | refine Below.drew ?_ | refine Qab ?_ _)⟩
theorem Qgd (A : Option Addr) (cap : Nat) (l : List En) (hl : l.length <= 3000000) (hr : ∀ x ∈ l, x.fit) (w : World) (hA : At w A l) :
 Calls Tryz.prog 92 #[.slice A l.length cap, .func (.func 179) #[] #[]] w fun e w' => e = .returned (.bool (l.all enF)) /\ Below w.heap.size w w' := by
 have HA := hidP hA
 have Hr := hidP hr
 clear hA hr
 go_enter Tryz.func92, Tryz.ntmps92
 go_wp2
 go_loopw [9] (fun i w' => ∃ (n : Nat), i = .int .i64 (n : Int) /\ n <= l.length /\ Hid (l.all enF = (l.drop n).all enF) /\ Below w.heap.size w w') (fun i _ => l.length - (intOf i).toNat)
 case atStart => exact ⟨0, rfl, by omega, rfl, Below.refl _ _⟩
 case round =>
  obtain ⟨n, rfl, hn, hz, hbl⟩ := hrel
  by_cases hlt : n < l.length
  . obtain ⟨b, o, rfl, hbs, hIn⟩ : ∃ b o, A = some ⟨b, o, none⟩ /\ b < w.heap.size /\ In w b o l := by
     rcases HA.out with h | h
     . subst h; simp at hlt
     . exact h
    obtain ⟨c0, c1, c2, c3, c4, c5, c6, c7, c8⟩ := (hIn.below hbs hbl).getEn n hlt
    have hd := hidP (hz.out.trans (Qd7 enF l n hlt))
    have HC : Hid (∀ W : World, Calls Tryz.prog 179 #[.agg (Qav l[n].term l[n].who l[n].seq l[n].op l[n].a l[n].b l[n].c l[n].key l[n].text)] W fun e w' => e = .returned (.bool (enF l[n])) /\ Below W.heap.size W w') := fun W => logOk1_any l[n] (Hr.out _ (List.getElem_mem hlt)) W
    clear hz
    generalize hb : enF l[n] = bb at hd HC
    clear hb
    cases bb
    . go_wp2_with fail
      refine (HC.out _).mono ?_
      rintro e w1 ⟨rfl, g1⟩
      go_wp2
      go_ret
      exact ⟨by rw [hd.out]; rfl, via0 g1 (Qab hbl _)⟩
    . go_wp2_with fail
      refine (HC.out _).mono ?_
      rintro e w1 ⟨rfl, g1⟩
      go_wp2
      exact ⟨⟨n + 1, by go_num, by omega, by show _ = _; rw [hd.out]; rfl, via0 g1 (Qab hbl _)⟩, by simp [intOf]; omega⟩
  . have e : l.drop n = [] := List.drop_of_length_le (by omega)
    go_wp2
    go_ret
    have h := hz.out
    rw [e] at h
    exact ⟨by rw [h]; rfl, hbl⟩
theorem Qf1 (base bt : Int) (A : Option Addr) (cap : Nat) (l : List En) (hl : l.length <= 3000000) (hr : ∀ x ∈ l, x.fit) (w : World) (hA : At w A l) :
 Calls Tryz.prog 158 #[.agg (Qap base bt A l.length cap)] w fun e w' => e = .returned (.bool (logB base bt l)) /\ Below w.heap.size w w' := by
 have E1 : Hid (∀ W : World, Calls Tryz.prog 56 #[.int .i64 base] W fun e w' => e = .returned (.bool (inB base 0 300)) /\ w' = W) := fun W => Qbj _ W
 have E2 : Hid (∀ W : World, Calls Tryz.prog 56 #[.int .i64 bt] W fun e w' => e = .returned (.bool (inB bt 0 300)) /\ w' = W) := fun W => Qbj _ W
 have E4 : Hid (∀ W : World, Below w.heap.size w W -> Calls Tryz.prog 178 #[.int .i64 bt, .slice A l.length cap] W fun e w' => e = .returned (.bool (Qcq bt l)) /\ Below W.heap.size W w') := fun W g => Qd9 bt A cap l hl W (hA.below g)
 have E5 : Hid (∀ W : World, Below w.heap.size w W -> Calls Tryz.prog 92 #[.slice A l.length cap, .func (.func 179) #[] #[]] W fun e w' => e = .returned (.bool (l.all enF)) /\ Below W.heap.size W w') := fun W g => Qgd A cap l hl hr W (hA.below g)
 clear hA hr
 have B0 : Below w.heap.size w (w.alloc (.cells (Qap base bt A l.length cap) 53)) := Qab (Below.refl _ _) _
 have hF : Hid (logB base bt l = (inB base 0 300 && inB bt 0 300 && decide ((l.length : Int) <= 300 - base) && Qcq bt l && l.all enF)) := rfl
 cases h1 : inB base 0 300
 . rw [h1] at E1 hF
   clear h1
   go_enter Tryz.func158, Tryz.ntmps158
   go_wp2_with fail
   refine (E1.out _).mono ?_
   rintro e w1 ⟨rfl, rfl⟩
   go_wp2
   go_ret
   exact ⟨by rw [hF.out]; rfl, B0⟩
 obtain ⟨hb0, hb1⟩ := in_le h1
 rw [h1] at E1 hF
 clear h1
 generalize h2 : inB bt 0 300 = b2 at E2 hF
 clear h2
 cases b2
 . go_enter Tryz.func158, Tryz.ntmps158
   go_wp2_with fail
   refine (E1.out _).mono ?_
   rintro e w1 ⟨rfl, rfl⟩
   go_wp2_with fail
   refine (E2.out _).mono ?_
   rintro e w1 ⟨rfl, rfl⟩
   go_wp2
   go_ret
   exact ⟨by rw [hF.out]; rfl, B0⟩
 by_cases h3 : (l.length : Int) <= 300 - base
 . rw [decide_eq_true h3] at hF
   generalize h4 : Qcq bt l = b4 at E4 hF
   generalize h5 : l.all enF = b5 at E5 hF
   clear h4 h5
   cases b4
   . go_enter Tryz.func158, Tryz.ntmps158
     go_wp2_with fail
     refine (E1.out _).mono ?_
     rintro e w1 ⟨rfl, rfl⟩
     go_wp2_with fail
     refine (E2.out _).mono ?_
     rintro e w1 ⟨rfl, rfl⟩
     go_wp2_with fail
     refine (E4.out _ B0).mono ?_
     rintro e w1 ⟨rfl, g1⟩
     go_wp2
     go_ret
     exact ⟨by rw [hF.out]; rfl, via0 g1 B0⟩
   . cases b5
     all_goals
      go_enter Tryz.func158, Tryz.ntmps158
      go_wp2_with fail
      refine (E1.out _).mono ?_
      rintro e w1 ⟨rfl, rfl⟩
      go_wp2_with fail
      refine (E2.out _).mono ?_
      rintro e w1 ⟨rfl, rfl⟩
      go_wp2_with fail
      refine (E4.out _ B0).mono ?_
      rintro e w1 ⟨rfl, g1⟩
      have p1 := (Blk.new w 53 (Qap base bt A l.length cap)).below g1 (by simp)
      obtain ⟨u0, u1, u2⟩ := p1.row3
      have q1 := p1.lt
      have B1 := via0 g1 B0
      clear g1
      go_wp2_with fail
      refine (E5.out _ B1).mono ?_
      rintro e w2 ⟨rfl, g2⟩
      go_wp2
      go_ret
      exact ⟨by rw [hF.out]; rfl, via0 g2 B1⟩
 . rw [decide_eq_false h3] at hF
   go_enter Tryz.func158, Tryz.ntmps158
   go_wp2_with fail
   refine (E1.out _).mono ?_
   rintro e w1 ⟨rfl, rfl⟩
   go_wp2_with fail
   refine (E2.out _).mono ?_
   rintro e w1 ⟨rfl, rfl⟩
   go_wp2
   go_ret
   exact ⟨by rw [hF.out]; rfl, B0⟩
theorem Qft (base bt : Int) (A : Option Addr) (cap : Nat) (l : List En) (hl : l.length <= 3000000) (hr : ∀ x ∈ l, x.fit) (w : World) (hA : At w A l) :
 Calls Tryz.prog 114 #[.agg (Qap base bt A l.length cap)] w fun e w' => e = .returned (.bool (logB base bt l)) /\ Below w.heap.size w w' := by
 have E1 : Hid (∀ W : World, Calls Tryz.prog 32 (Qa4 base 0 300) W fun e w' => e = .returned (.bool (inB base 0 300)) /\ w' = W) := fun W => in_any _ _ _ W
 have E2 : Hid (∀ W : World, Calls Tryz.prog 32 (Qa4 bt 0 300) W fun e w' => e = .returned (.bool (inB bt 0 300)) /\ w' = W) := fun W => in_any _ _ _ W
 have HA := hidP hA
 have Hr := hidP hr
 clear hA hr
 have B0 : Below w.heap.size w (w.alloc (.cells (Qap base bt A l.length cap) 53)) := Qab (Below.refl _ _) _
 have P0 : Blk (w.alloc (.cells (Qap base bt A l.length cap) 53)) w.heap.size 53 (Qap base bt A l.length cap) := Blk.new w 53 (Qap base bt A l.length cap)
 have hF : Hid (logB base bt l = (inB base 0 300 && inB bt 0 300 && decide ((l.length : Int) <= 300 - base) && Qcq bt l && l.all enF)) := rfl
 cases h1 : inB base 0 300
 . rw [h1] at E1 hF
   clear h1
   go_enter Tryz.func114, Tryz.ntmps114
   go_wp2_with fail
   refine (E1.out _).mono ?_
   rintro e w1 ⟨rfl, rfl⟩
   go_wp2
   go_ret
   exact ⟨by rw [hF.out]; rfl, B0⟩
 obtain ⟨hb0, hb1⟩ := in_le h1
 rw [h1] at E1 hF
 clear h1
 generalize h2 : inB bt 0 300 = b2 at E2 hF
 clear h2
 cases b2
 . go_enter Tryz.func114, Tryz.ntmps114
   go_wp2_with fail
   refine (E1.out _).mono ?_
   rintro e w1 ⟨rfl, rfl⟩
   go_wp2_with fail
   refine (E2.out _).mono ?_
   rintro e w1 ⟨rfl, rfl⟩
   go_wp2
   go_ret
   exact ⟨by rw [hF.out]; rfl, B0⟩
 by_cases h3 : (l.length : Int) <= 300 - base
 . rw [decide_eq_true h3] at hF
   have h3' : ¬ 300 - base < (l.length : Int) := by omega
   go_enter Tryz.func114, Tryz.ntmps114
   go_wp2_with fail
   refine (E1.out _).mono ?_
   rintro e w1 ⟨rfl, rfl⟩
   go_wp2_with fail
   refine (E2.out _).mono ?_
   rintro e w1 ⟨rfl, rfl⟩
   go_wp2
   go_loopw [3, 4] (fun t i w' => ∃ (n : Nat) (z : Int), i = .int .i64 (n : Int) /\ t = .int .i64 z /\ n <= l.length /\ Hid (logB base bt l = (Qcq z (l.drop n) && (l.drop n).all enF)) /\ Below w.heap.size w w' /\ Blk w' w.heap.size 53 (Qap base bt A l.length cap)) (fun _ i _ => l.length - (intOf i).toNat)
   case atStart => exact ⟨0, bt, rfl, rfl, by omega, by show _ = _; rw [hF.out]; simp, B0, P0⟩
   case round =>
    obtain ⟨n, z, rfl, rfl, hn, hz, hbl, hP⟩ := hrel
    obtain ⟨u0, u1, u2⟩ := hP.row3
    have q1 := hP.lt
    by_cases hlt : n < l.length
    . obtain ⟨b, o, rfl, hbs, hIn⟩ : ∃ b o, A = some ⟨b, o, none⟩ /\ b < w.heap.size /\ In w b o l := by
       rcases HA.out with h | h
       . subst h; simp at hlt
       . exact h
      obtain ⟨c0, c1, c2, c3, c4, c5, c6, c7, c8⟩ := (hIn.below hbs hbl).getEn n hlt
      have hd := hidP (hz.out.trans (by rw [Qfd z l n hlt, Qd7 enF l n hlt]))
      have HW : Hid (∀ W : World, Calls Tryz.prog 32 (Qa4 l[n].term z 300) W fun e w' => e = .returned (.bool (inB l[n].term z 300)) /\ w' = W) := fun W => in_any _ _ _ W
      have HC : Hid (∀ W : World, Calls Tryz.prog 43 #[.agg (Qan l[n].who l[n].seq l[n].op l[n].a l[n].b l[n].c l[n].key l[n].text)] W fun e w' => e = .returned (.bool (enF l[n])) /\ Below W.heap.size W w') := fun W => CmdOk.spec_any _ _ _ _ _ _ _ _ (Hr.out _ (List.getElem_mem hlt)).1 (Hr.out _ (List.getElem_mem hlt)).2 W
      clear hz
      generalize hb : inB l[n].term z 300 = bb at hd HW
      clear hb
      cases bb
      . go_wp2_with fail
        refine (HW.out _).mono ?_
        rintro e w1 ⟨rfl, rfl⟩
        go_wp2
        go_ret
        exact ⟨by rw [hd.out]; rfl, hbl⟩
      . generalize hb : enF l[n] = bb at hd HC
        clear hb
        cases bb
        . go_wp2_with fail
          refine (HW.out _).mono ?_
          rintro e w1 ⟨rfl, rfl⟩
          go_wp2_with fail
          refine (HC.out _).mono ?_
          rintro e w1 ⟨rfl, g1⟩
          go_wp2
          go_ret
          exact ⟨by rw [hd.out]; simp, via0 g1 hbl⟩
        . go_wp2_with fail
          refine (HW.out _).mono ?_
          rintro e w1 ⟨rfl, rfl⟩
          go_wp2_with fail
          refine (HC.out _).mono ?_
          rintro e w1 ⟨rfl, g1⟩
          have hP1 := hP.below g1 hP.lt
          have hbl1 := via0 g1 hbl
          clear u0 u1 u2 c0 c1 c2 c3 c4 c5 c6 c7 c8
          obtain ⟨u0, u1, u2⟩ := hP1.row3
          obtain ⟨c0, c1, c2, c3, c4, c5, c6, c7, c8⟩ := (hIn.below hbs hbl1).getEn n hlt
          have q2 := hP1.lt
          go_wp2
          exact ⟨⟨n + 1, l[n].term, by go_num, rfl, by omega, by show _ = _; rw [hd.out]; rfl, hbl1, hP1⟩, by simp [intOf]; omega⟩
    . have e : l.drop n = [] := List.drop_of_length_le (by omega)
      go_wp2
      go_ret
      have h := hz.out
      rw [e] at h
      exact ⟨by rw [h]; rfl, hbl⟩
 . rw [decide_eq_false h3] at hF
   have h3' : 300 - base < (l.length : Int) := by omega
   go_enter Tryz.func114, Tryz.ntmps114
   go_wp2_with fail
   refine (E1.out _).mono ?_
   rintro e w1 ⟨rfl, rfl⟩
   go_wp2_with fail
   refine (E2.out _).mono ?_
   rintro e w1 ⟨rfl, rfl⟩
   go_wp2
   go_ret
   exact ⟨by rw [hF.out]; rfl, B0⟩
end Go.Proofs.YtkmkldjipihceaaGreat.Gen
