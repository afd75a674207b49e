/-
  What KeepOk is made of at this seat: rows, makers, groups and answers, each right; makers in order. No condition but that each list has at most 1048576 records.
-/
import Derived.Test.YtkmkldjipihceaaGreatMakList2
import Derived.Test.YtkmkldjipihceaaGreatSetups
import Derived.Test.YtkmkldjipihceaaGreatImplRowOk
import Derived.Test.YtkmkldjipihceaaGreatSpecRowOk2
import Derived.Test.YtkmkldjipihceaaGreatMakOk2
import Derived.Test.YtkmkldjipihceaaGreatGrpOk2
set_option linter.unusedVariables false
set_option linter.unusedSimpArgs false
set_option maxRecDepth 100000
set_option maxHeartbeats 8000000
set_option maxRecDepth 100000
set_option maxHeartbeats 8000000
namespace Go.Proofs.YtkmkldjipihceaaGreat.Gen
open ChangeShapes WideShapes ChangeAt RowKit Joins Deep Base
def rowF (x : RC) : Bool := Items.rowB x.start x.next x.its
def makF (ro wi : Int) (x : MC) : Bool := okB x.row x.who x.epoch x.last wi x.ms && decide (x.row < ro)
def grpF (ro : Int) (x : GC) : Bool := gokB x.gen ro x.m x.b x.o
def ansF (x : An) : Bool := ansB x.code x.n x.key x.text
def behB (a b : MC) : Bool := decide (a.row < b.row) || (decide (a.row = b.row) && decide (a.who < b.who))
def Qev (l : List MC) (i : Nat) : Bool := decide (i = 0) || behB (l.getD (i - 1) default) (l.getD i default)
def Qbn (l : List MC) (n : Nat) : Bool := (List.range n).all (Qev l)
theorem Qdp (l : List MC) (n : Nat) : Qbn l (n + 1) = (Qbn l n && Qev l n) := by simp [Qbn, List.range_succ]
theorem ordTo_no {l : List MC} {n : Nat} (h : n < l.length) (hx : Qev l n = false) : Qbn l l.length = false := by
 unfold Qbn; rw [List.all_eq_false]; exact ⟨n, by simpa using h, by simp [hx]⟩
theorem ordAt_is {l : List MC} {p : Nat} (h : p + 1 < l.length) : Qev l (p + 1) = behB (l[p]'(by omega)) l[p + 1] := by
 have h0 : p < l.length := by omega
 simp [Qev, h, h0]
theorem Qbs {α : Type} (f : α -> Bool) {l : List α} {n : Nat} (h : n < l.length) : (l.take (n + 1)).all f = ((l.take n).all f && f l[n]) := by
 rw [List.take_succ_eq_append_getElem h, List.all_append]; simp
theorem Qc3 {α : Type} (f : α -> Bool) {l : List α} {n : Nat} (h : n < l.length) (hx : f l[n] = false) : l.all f = false := by
 rw [List.all_eq_false]; exact ⟨l[n], List.getElem_mem h, by simp [hx]⟩
def Qbo (ro wi le ke : Int) (x : KC) : Bool :=
  setB ro wi le ke && decide ((x.rs.length : Int) = ro) && x.rs.all rowF && Qbn x.ms x.ms.length && x.ms.all (makF ro wi) && decide ((x.gs.length : Int) = 2) && x.gs.all (grpF ro) && inB x.time 0 100000 && decide ((x.ds.length : Int) = 4) && Qbm x.ds x.ds.length && decide ((x.ls.length : Int) = 4) && x.ls.all ansF
structure KAsk (x : KC) : Prop where
  fit : KFit x
  rr : ∀ y ∈ x.rs, y.right
  lr : ∀ y ∈ x.ls, y.right
theorem Qew (x : MC) (ro wi le ke : Int) (Bs : Nat) (hl : x.ms.length <= 1048576) (w : World) (hs : Blk w Bs 33 (Qag ro wi le ke)) (hat : At w x.A x.ms) :
 Calls Tryz.prog 165 #[.agg (Qa6 x.row x.who x.epoch x.last x.A x.ms.length x.cap), .pointer (some ⟨Bs, 0, none⟩)] w fun e w' => e = .returned (.bool (makF ro wi x)) /\ Below w.heap.size w w' := by
 have Hat := hidP hat
 have hne : Bs < w.heap.size := hs.lt
 obtain ⟨s0, s1, s2, s3⟩ := hs.row4
 clear hat
 obtain ⟨b, hb⟩ : ∃ b, okB x.row x.who x.epoch x.last wi x.ms = b := ⟨_, rfl⟩
 have HC : Hid (∀ W : World, Below w.heap.size w W -> Calls Tryz.prog 166 #[.agg (Qa6 x.row x.who x.epoch x.last x.A x.ms.length x.cap), .int .i64 wi] W fun e w' => e = .returned (.bool b) /\ Below W.heap.size W w') := fun W g => hb ▸ implOk_is _ _ _ _ _ _ _ _ hl W (Hat.out.below g)
 have hF : Hid (makF ro wi x = (b && decide (x.row < ro))) := by show _ = _; rw [makF, hb]
 clear hb
 cases b
 all_goals
  go_enter Tryz.func165, Tryz.ntmps165
  go_wp2_with fail
  refine (HC.out _ (Qab (Below.refl _ _) _)).mono ?_
  rintro e w1 ⟨rfl, g1⟩
  have B1 : Below w.heap.size w w1 := via0 g1 (Qab (Below.refl _ _) _)
  have p1 := (Blk.new w 221 (Qa6 x.row x.who x.epoch x.last x.A x.ms.length x.cap)).below g1 (by simp)
  obtain ⟨u0, u1, u2, u3, u4⟩ := p1.row5
  have q1 := p1.lt
  obtain ⟨k1, m1⟩ := Qax B1
  have z0 := (k1 _ 0 hne).trans s0
  have q2 : Bs < w1.heap.size := Nat.lt_of_lt_of_le hne B1.size
  go_wp2
  go_ret
  exact ⟨by rw [hF.out]; first | rfl | simp, B1⟩
theorem Qe1 (x : GC) (ro wi le ke : Int) (Bs : Nat) (hl : x.m.length <= 1048576 /\ x.b.length <= 1048576 /\ x.o.length <= 1048576) (w : World) (hs : Blk w Bs 33 (Qag ro wi le ke)) (hat : atG w x) :
 Calls Tryz.prog 168 #[.agg (Qa3 x.gen x.a1 x.m.length x.c1 x.a2 x.b.length x.c2 x.a3 x.o.length x.c3), .pointer (some ⟨Bs, 0, none⟩)] w fun e w' => e = .returned (.bool (grpF ro x)) /\ Below w.heap.size w w' := by
 have Hat := hidP hat
 have hne : Bs < w.heap.size := hs.lt
 obtain ⟨s0, s1, s2, s3⟩ := hs.row4
 clear hat
 have HC : Hid (∀ W : World, Below w.heap.size w W -> Calls Tryz.prog 169 #[.agg (Qa3 x.gen x.a1 x.m.length x.c1 x.a2 x.b.length x.c2 x.a3 x.o.length x.c3), .int .i64 ro] W fun e w' => e = .returned (.bool (grpF ro x)) /\ Below W.heap.size W w') := fun W g => Qh6 _ _ _ _ _ _ _ _ _ _ _ hl W (Hat.out.below g).1 (Hat.out.below g).2.1 (Hat.out.below g).2.2
 go_enter Tryz.func168, Tryz.ntmps168
 go_wp2_with fail
 refine (HC.out _ (Qab (Below.refl _ _) _)).mono ?_
 rintro e w1 ⟨rfl, g1⟩
 go_wp2
 go_ret
 exact ⟨rfl, via0 g1 (Qab (Below.refl _ _) _)⟩
theorem Qih (A : Option Addr) (cap : Nat) (l : List RC) (hl : l.length <= 1048576) (hs : ∀ x ∈ l, x.its.length <= 1048576) (hr : ∀ x ∈ l, x.right) (w : World) (hA : At w A l) (hE : EachR w l) :
 Calls Tryz.prog 161 #[.slice A l.length cap, .func (.func 162) #[] #[]] w fun e w' => e = .returned (.bool (l.all rowF)) /\ Below w.heap.size w w' := by
 have HA := hidP hA
 have HE := hidP hE
 have Hs := hidP hs
 have Hr := hidP hr
 clear hA hE hs hr
 go_enter Tryz.func161, Tryz.ntmps161
 go_wp2
 go_loopw [9] (fun i w' => ∃ (n : Nat), i = .int .i64 (n : Int) /\ n <= l.length /\ Hid ((l.take n).all rowF = true) /\ Below w.heap.size w w') (fun i _ => l.length - (intOf i).toNat)
 case atStart => exact ⟨0, rfl, by omega, rfl, Below.refl _ _⟩
 case round =>
  obtain ⟨n, rfl, hn, hall, hbl⟩ := hrel
  by_cases hlt : n < l.length
  . obtain ⟨b, o, rfl, hbs, hIn⟩ : ∃ b o, A = some ⟨b, o, none⟩ /\ b < w.heap.size /\ In w b o l := by
     rcases HA.out with h | h
     . subst h; simp at hlt
     . exact h
    obtain ⟨c0, c1, c2⟩ := (hIn.below hbs hbl).getRC n hlt
    have HC : ∀ W : World, Below wr.heap.size wr W -> Calls Tryz.prog 162 #[.agg (Qap l[n].start l[n].next l[n].A l[n].its.length l[n].cap)] W fun e w' => e = .returned (.bool (rowF l[n])) /\ Below W.heap.size W w' := fun W g => Items.implRowOk_any _ _ _ _ _ (by have := Hs.out _ (List.getElem_mem hlt); omega) (fun y hy => ((Hr.out _ (List.getElem_mem hlt)).2.2.2 y hy).2.2.2) W (((HE.out _ (List.getElem_mem hlt)).below hbl).below g)
    have hsu := Qbs rowF hlt
    have hno := Qc3 rowF hlt
    generalize hb : rowF l[n] = bb at HC hsu hno
    have HC := hidP HC
    have Hsu := hidP hsu
    have Hno := hidP hno
    clear hb hsu hno
    cases bb
    . have HN := hidP (Hno.out rfl)
      clear Hno Hsu
      go_wp2_with fail
      refine (HC.out _ (Qab (Below.refl _ _) _)).mono ?_
      rintro e w1 ⟨rfl, g1⟩
      go_wp2
      go_ret
      exact ⟨by rw [HN.out]; rfl, via0 g1 (Qab hbl _)⟩
    . clear Hno
      go_wp2_with fail
      refine (HC.out _ (Qab (Below.refl _ _) _)).mono ?_
      rintro e w1 ⟨rfl, g1⟩
      go_wp2
      exact ⟨⟨n + 1, by go_num, by omega, by show _ = _; rw [Hsu.out, hall.out]; rfl, via0 g1 (Qab hbl _)⟩, by simp [intOf]; omega⟩
  . have e : l.take n = l := List.take_of_length_le (by omega)
    go_wp2
    go_ret
    have h := hall.out
    rw [e] at h
    exact ⟨by rw [h]; rfl, hbl⟩
theorem Qf8 (ro wi le ke : Int) (Bs : Nat) (A : Option Addr) (cap : Nat) (l : List MC) (hl : l.length <= 1048576) (hs : ∀ x ∈ l, x.ms.length <= 1048576) (w : World) (hB : Blk w Bs 33 (Qag ro wi le ke)) (hA : At w A l) (hE : Each w l) :
 Calls Tryz.prog 164 #[.slice A l.length cap, .func (.func 165) #[] #[.pointer (some ⟨Bs, 0, none⟩)]] w fun e w' => e = .returned (.bool (l.all (makF ro wi))) /\ Below w.heap.size w w' := by
 have HA := hidP hA
 have HE := hidP hE
 have Hs := hidP hs
 have HB := hidP hB
 clear hA hE hs hB
 go_enter Tryz.func164, Tryz.ntmps164
 go_wp2
 go_loopw [9] (fun i w' => ∃ (n : Nat), i = .int .i64 (n : Int) /\ n <= l.length /\ Hid ((l.take n).all (makF ro wi) = true) /\ Below w.heap.size w w') (fun i _ => l.length - (intOf i).toNat)
 case atStart => exact ⟨0, rfl, by omega, rfl, Below.refl _ _⟩
 case round =>
  obtain ⟨n, rfl, hn, hall, hbl⟩ := hrel
  by_cases hlt : n < l.length
  . obtain ⟨b, o, rfl, hbs, hIn⟩ : ∃ b o, A = some ⟨b, o, none⟩ /\ b < w.heap.size /\ In w b o l := by
     rcases HA.out with h | h
     . subst h; simp at hlt
     . exact h
    obtain ⟨c0, c1, c2, c3, c4⟩ := (hIn.below hbs hbl).getMC n hlt
    have HC : ∀ W : World, Below wr.heap.size wr W -> Calls Tryz.prog 165 #[.agg (Qa6 l[n].row l[n].who l[n].epoch l[n].last l[n].A l[n].ms.length l[n].cap), .pointer (some ⟨Bs, 0, none⟩)] W fun e w' => e = .returned (.bool ((makF ro wi) l[n])) /\ Below W.heap.size W w' := fun W g => Qew l[n] ro wi le ke Bs (Hs.out _ (List.getElem_mem hlt)) W ((HB.out.below hbl HB.out.lt).below g (Nat.lt_of_lt_of_le HB.out.lt hbl.size)) (((HE.out _ (List.getElem_mem hlt)).below hbl).below g)
    have hsu := Qbs (makF ro wi) hlt
    have hno := Qc3 (makF ro wi) hlt
    generalize hb : (makF ro wi) l[n] = bb at HC hsu hno
    have HC := hidP HC
    have Hsu := hidP hsu
    have Hno := hidP hno
    clear hb hsu hno
    cases bb
    . have HN := hidP (Hno.out rfl)
      clear Hno Hsu
      go_wp2_with fail
      refine (HC.out _ (Qab (Below.refl _ _) _)).mono ?_
      rintro e w1 ⟨rfl, g1⟩
      go_wp2
      go_ret
      exact ⟨by rw [HN.out]; rfl, via0 g1 (Qab hbl _)⟩
    . clear Hno
      go_wp2_with fail
      refine (HC.out _ (Qab (Below.refl _ _) _)).mono ?_
      rintro e w1 ⟨rfl, g1⟩
      go_wp2
      exact ⟨⟨n + 1, by go_num, by omega, by show _ = _; rw [Hsu.out, hall.out]; rfl, via0 g1 (Qab hbl _)⟩, by simp [intOf]; omega⟩
  . have e : l.take n = l := List.take_of_length_le (by omega)
    go_wp2
    go_ret
    have h := hall.out
    rw [e] at h
    exact ⟨by rw [h]; rfl, hbl⟩
theorem Qga (ro wi le ke : Int) (Bs : Nat) (A : Option Addr) (cap : Nat) (l : List GC) (hl : l.length <= 1048576) (hs : ∀ x ∈ l, x.m.length <= 1048576 /\ x.b.length <= 1048576 /\ x.o.length <= 1048576) (w : World) (hB : Blk w Bs 33 (Qag ro wi le ke)) (hA : At w A l) (hE : EachG w l) :
 Calls Tryz.prog 167 #[.slice A l.length cap, .func (.func 168) #[] #[.pointer (some ⟨Bs, 0, none⟩)]] w fun e w' => e = .returned (.bool (l.all (grpF ro))) /\ Below w.heap.size w w' := by
 have HA := hidP hA
 have HE := hidP hE
 have Hs := hidP hs
 have HB := hidP hB
 clear hA hE hs hB
 go_enter Tryz.func167, Tryz.ntmps167
 go_wp2
 go_loopw [9] (fun i w' => ∃ (n : Nat), i = .int .i64 (n : Int) /\ n <= l.length /\ Hid ((l.take n).all (grpF ro) = true) /\ Below w.heap.size w w') (fun i _ => l.length - (intOf i).toNat)
 case atStart => exact ⟨0, rfl, by omega, rfl, Below.refl _ _⟩
 case round =>
  obtain ⟨n, rfl, hn, hall, hbl⟩ := hrel
  by_cases hlt : n < l.length
  . obtain ⟨b, o, rfl, hbs, hIn⟩ : ∃ b o, A = some ⟨b, o, none⟩ /\ b < w.heap.size /\ In w b o l := by
     rcases HA.out with h | h
     . subst h; simp at hlt
     . exact h
    obtain ⟨c0, c1, c2, c3⟩ := (hIn.below hbs hbl).getGC n hlt
    have HC : ∀ W : World, Below wr.heap.size wr W -> Calls Tryz.prog 168 #[.agg (Qa3 l[n].gen l[n].a1 l[n].m.length l[n].c1 l[n].a2 l[n].b.length l[n].c2 l[n].a3 l[n].o.length l[n].c3), .pointer (some ⟨Bs, 0, none⟩)] W fun e w' => e = .returned (.bool ((grpF ro) l[n])) /\ Below W.heap.size W w' := fun W g => Qe1 l[n] ro wi le ke Bs (Hs.out _ (List.getElem_mem hlt)) W ((HB.out.below hbl HB.out.lt).below g (Nat.lt_of_lt_of_le HB.out.lt hbl.size)) (((HE.out _ (List.getElem_mem hlt)).below hbl).below g)
    have hsu := Qbs (grpF ro) hlt
    have hno := Qc3 (grpF ro) hlt
    generalize hb : (grpF ro) l[n] = bb at HC hsu hno
    have HC := hidP HC
    have Hsu := hidP hsu
    have Hno := hidP hno
    clear hb hsu hno
    cases bb
    . have HN := hidP (Hno.out rfl)
      clear Hno Hsu
      go_wp2_with fail
      refine (HC.out _ (Qab (Below.refl _ _) _)).mono ?_
      rintro e w1 ⟨rfl, g1⟩
      go_wp2
      go_ret
      exact ⟨by rw [HN.out]; rfl, via0 g1 (Qab hbl _)⟩
    . clear Hno
      go_wp2_with fail
      refine (HC.out _ (Qab (Below.refl _ _) _)).mono ?_
      rintro e w1 ⟨rfl, g1⟩
      go_wp2
      exact ⟨⟨n + 1, by go_num, by omega, by show _ = _; rw [Hsu.out, hall.out]; rfl, via0 g1 (Qab hbl _)⟩, by simp [intOf]; omega⟩
  . have e : l.take n = l := List.take_of_length_le (by omega)
    go_wp2
    go_ret
    have h := hall.out
    rw [e] at h
    exact ⟨by rw [h]; rfl, hbl⟩
theorem Qe5 (A : Option Addr) (cap : Nat) (l : List An) (hl : l.length <= 1048576) (hr : ∀ x ∈ l, x.right) (w : World) (hA : At w A l) :
 Calls Tryz.prog 171 #[.slice A l.length cap, .func (.func 97) #[] #[]] w fun e w' => e = .returned (.bool (l.all ansF)) /\ Below w.heap.size w w' := by
 have HA := hidP hA
 have Hr := hidP hr
 clear hA hr
 go_enter Tryz.func171, Tryz.ntmps171
 go_wp2
 go_loopw [9] (fun i w' => ∃ (n : Nat), i = .int .i64 (n : Int) /\ n <= l.length /\ Hid ((l.take n).all ansF = true) /\ Below w.heap.size w w') (fun i _ => l.length - (intOf i).toNat)
 case atStart => exact ⟨0, rfl, by omega, rfl, Below.refl _ _⟩
 case round =>
  obtain ⟨n, rfl, hn, hall, hbl⟩ := hrel
  by_cases hlt : n < l.length
  . obtain ⟨b, o, rfl, hbs, hIn⟩ : ∃ b o, A = some ⟨b, o, none⟩ /\ b < w.heap.size /\ In w b o l := by
     rcases HA.out with h | h
     . subst h; simp at hlt
     . exact h
    obtain ⟨c0, c1, c2, c3⟩ := (hIn.below hbs hbl).getAn n hlt
    have HC : ∀ W : World, Below wr.heap.size wr W -> Calls Tryz.prog 97 #[.agg (Qcr l[n].code l[n].n l[n].key l[n].text)] W fun e w' => e = .returned (.bool (ansF l[n])) /\ Below W.heap.size W w' := fun W g => Qda _ _ _ _ (Hr.out _ (List.getElem_mem hlt)).2.2.1 (Hr.out _ (List.getElem_mem hlt)).2.2.2 W
    have hsu := Qbs ansF hlt
    have hno := Qc3 ansF hlt
    generalize hb : ansF l[n] = bb at HC hsu hno
    have HC := hidP HC
    have Hsu := hidP hsu
    have Hno := hidP hno
    clear hb hsu hno
    cases bb
    . have HN := hidP (Hno.out rfl)
      clear Hno Hsu
      go_wp2_with fail
      refine (HC.out _ (Qab (Below.refl _ _) _)).mono ?_
      rintro e w1 ⟨rfl, g1⟩
      go_wp2
      go_ret
      exact ⟨by rw [HN.out]; rfl, via0 g1 (Qab hbl _)⟩
    . clear Hno
      go_wp2_with fail
      refine (HC.out _ (Qab (Below.refl _ _) _)).mono ?_
      rintro e w1 ⟨rfl, g1⟩
      go_wp2
      exact ⟨⟨n + 1, by go_num, by omega, by show _ = _; rw [Hsu.out, hall.out]; rfl, via0 g1 (Qab hbl _)⟩, by simp [intOf]; omega⟩
  . have e : l.take n = l := List.take_of_length_le (by omega)
    go_wp2
    go_ret
    have h := hall.out
    rw [e] at h
    exact ⟨by rw [h]; rfl, hbl⟩
theorem Qd4 (row who epoch last : Int) (a : Option Addr) (n c : Nat) (w : World) :
 Calls Tryz.prog 183 #[.agg (Qa6 row who epoch last a n c)] w fun e w' => e = .returned (.agg (Qa4 row who 0)) /\ Below w.heap.size w w' := by
 go_enter Tryz.func183, Tryz.ntmps183
 go_wp2
 exact bodyPost_ret (v := .agg (Qa4 row who 0)) (by simp [results, Tryz.results183, go_sem]) rfl
  ⟨rfl, by repeat (first | exact Below.refl _ _ | refine Below.drew ?_ | refine Below.alloc ?_ (by simp<;>omega) _ | refine Below.setCell ?_ (by simp<;>omega) _)⟩
theorem Qgx (y z : MC) (w : World) :
 Calls Tryz.prog 184 #[.agg (Qa4 y.row y.who 0), .agg (Qa4 z.row z.who 0)] w fun e w' => e = .returned (.bool (behB z y)) /\ Below w.heap.size w w' := by
 by_cases h : y.row = z.row
 . have hF : Hid (behB z y = decide (z.who < y.who)) := by show _ = _; simp [behB, h]
   have h1 : (y.row != z.row) = false := by simp [h]
   go_enter Tryz.func184, Tryz.ntmps184
   go_wp2
   go_ret
   exact ⟨by rw [hF.out]; first | rfl | simp, by repeat (first | exact Below.refl _ _ | assumption | refine via0 (by assumption) ?_ | refine Below.drew ?_ | refine Qab ?_ _)⟩
 . have hF : Hid (behB z y = decide (z.row < y.row)) := by show _ = _; simp [behB, Ne.symm h]
   have h1 : (y.row != z.row) = true := by simp [h]
   go_enter Tryz.func184, Tryz.ntmps184
   go_wp2
   go_ret
   exact ⟨by rw [hF.out]; first | rfl | simp, by repeat (first | exact Below.refl _ _ | assumption | refine via0 (by assumption) ?_ | refine Below.drew ?_ | refine Qab ?_ _)⟩
theorem Qgy (A : Option Addr) (cap : Nat) (l : List MC) (hl : l.length <= 1048576) (w : World) (hA : At w A l) :
 Calls Tryz.prog 163 #[.slice A l.length cap] w fun e w' => e = .returned (.bool (Qbn l l.length)) /\ Below w.heap.size w w' := by
 have HA := hidP hA
 clear hA
 go_enter Tryz.func163, Tryz.ntmps163
 go_wp2
 go_loopw [3] (fun i w' => ∃ (n : Nat), i = .int .i64 (n : Int) /\ 1 <= n /\ (n <= l.length ∨ n = 1) /\ Hid (Qbn l n = true) /\ Below w.heap.size w w') (fun i _ => l.length - (intOf i).toNat)
 case atStart => exact ⟨1, rfl, by omega, .inr rfl, by show _ = _; simp [Qbn, Qev, List.range_succ], Below.refl _ _⟩
 case round =>
  obtain ⟨n, rfl, hn1, hn, hall, hbl⟩ := hrel
  by_cases hlt : n < l.length
  . obtain ⟨b, o, rfl, hbs, hIn⟩ : ∃ b o, A = some ⟨b, o, none⟩ /\ b < w.heap.size /\ In w b o l := by
     rcases HA.out with h | h
     . subst h; simp at hlt
     . exact h
    obtain ⟨p, hpn⟩ : ∃ p, n = p + 1 := ⟨n - 1, by omega⟩
    have hpl : p < l.length := by omega
    obtain ⟨c0, c1, c2, c3, c4⟩ := (hIn.below hbs hbl).getMC n hlt
    obtain ⟨d0, d1, d2, d3, d4⟩ := (hIn.below hbs hbl).getMC p hpl
    have hb1 : b < wr.heap.size := Nat.lt_of_lt_of_le hbs hbl.size
    have hi0 : (0 : Int) <= (n : Int) := by omega
    have hi1 : (n : Int) < (l.length : Int) := by omega
    have j0 : (0 : Int) <= (p : Int) := by omega
    have j1 : (p : Int) < (l.length : Int) := by omega
    have jw : Hid (IntKind.i64.wrap ((n : Int) - 1) = (p : Int)) := by
     show IntKind.i64.wrap ((n : Int) - 1) = (p : Int)
     rw [IntKind.wrap_i64]; omega
    have hsu := Qdp l n
    have hno := ordTo_no hlt
    have hoa : Qev l n = behB l[p] l[n] := by subst hpn; exact ordAt_is hlt
    rw [hoa] at hsu hno
    clear hoa hpn
    generalize l[n] = y at c0 c1 c2 c3 c4 hsu hno
    generalize l[p] = z at d0 d1 d2 d3 d4 hsu hno
    have HC : ∀ W : World, Calls Tryz.prog 184 #[.agg (Qa4 y.row y.who 0), .agg (Qa4 z.row z.who 0)] W fun e w' => e = .returned (.bool (behB z y)) /\ Below W.heap.size W w' := fun W => Qgx y z W
    generalize behB z y = bb at HC hsu hno
    have HC := hidP HC
    have Hsu := hidP hsu
    have Hno := hidP hno
    clear hsu hno
    cases bb
    . have HN := hidP (Hno.out rfl)
      clear Hno Hsu
      go_wp2_with fail
      refine wp_region_noPanic ?_
      refine wp_region_held_drew (S := (fun w' => w'.cell? ⟨b, o + n * 5, none⟩ = some (.int .i64 y.row) /\ w'.cell? ⟨b, o + n * 5 + 1, none⟩ = some (.int .i64 y.who) /\ w'.cell? ⟨b, o + n * 5 + 2, none⟩ = some (.int .i64 y.epoch) /\ w'.cell? ⟨b, o + n * 5 + 3, none⟩ = some (.int .i64 y.last) /\ w'.cell? ⟨b, o + n * 5 + 4, none⟩ = some (.slice y.A y.ms.length y.cap) /\ w'.cell? ⟨b, o + p * 5, none⟩ = some (.int .i64 z.row) /\ w'.cell? ⟨b, o + p * 5 + 1, none⟩ = some (.int .i64 z.who) /\ w'.cell? ⟨b, o + p * 5 + 2, none⟩ = some (.int .i64 z.epoch) /\ w'.cell? ⟨b, o + p * 5 + 3, none⟩ = some (.int .i64 z.last) /\ w'.cell? ⟨b, o + p * 5 + 4, none⟩ = some (.slice z.A z.ms.length z.cap))) (by kernel_rfl) ?_ (fun hH => ?_)
      . (refine ⟨?_, ?_, ?_, ?_, ?_, ?_, ?_, ?_, ?_, ?_⟩<;>assumption)
      refine ztk [0,1,2,3,5,6] ?_; repeat (refine ztn (h := ?_); try simp only [zX,zY])
      refine zte ?_
      refine' wpAnyH_take (i := 7) (v := _) rfl (by kernel_rfl) (by kernel_rfl) (by kernel_rfl) (fun _ _ _ h => h) (Or.inl ⟨by rfl, ?hy7⟩) (by assumption) ?rest7
      case hy7 => (intro w hSw; (try dsimp only at hSw); go_simp<;>(rw [jw.out]<;>with_reducible rfl))
      try simp only [zX,zY]
      refine ztk [8,9] ?_; repeat (refine ztn (h := ?_); try simp only [zX,zY])
      refine zte ?_
      refine zR1 4 (fun K hK => ?_)
      simp only [zG]
      go_simp
      (go_at_call 183; refine (Qd4 _ _ _ _ _ _ _ _).mono ?_; rintro e w1 ⟨rfl, g1⟩; obtain ⟨k1, m1⟩ := Qax g1; have HB1 := hidP g1)
      refine hK.out _ _ ?_ (fun hH => ?_)
      . (go_split_ands; refine ⟨?_, ?_, ?_, ?_, ?_, ?_, ?_, ?_, ?_, ?_⟩<;>exact (k1 _ _ hb1).trans (by assumption))
      clear hK K
      try simp only [zX,zY]
      refine zR1 10 (fun K hK => ?_)
      simp only [zG]
      go_simp
      (go_at_call 183; refine (Qd4 _ _ _ _ _ _ _ _).mono ?_; rintro e w2 ⟨rfl, g2⟩; obtain ⟨k2, m2⟩ := Qax g2; have HB2 := hidP g2; have hb2 := Nat.lt_of_lt_of_le hb1 HB1.out.size)
      refine hK.out _ _ ?_ (fun hH => ?_)
      . (go_split_ands; refine ⟨?_, ?_, ?_, ?_, ?_, ?_, ?_, ?_, ?_, ?_⟩<;>exact (k2 _ _ hb2).trans (by assumption))
      clear hK K
      try simp only [zX,zY]
      refine zR1 11 (fun K hK => ?_)
      simp only [zG]
      go_simp
      (go_at_call 184; refine (HC.out _).mono ?_; rintro e w3 ⟨rfl, g3⟩; obtain ⟨k3, m3⟩ := Qax g3; have HB3 := hidP g3; have hb3 := Nat.lt_of_lt_of_le hb2 HB2.out.size)
      refine hK.out _ _ ?_ (fun hH => ?_)
      . (go_split_ands; refine ⟨?_, ?_, ?_, ?_, ?_, ?_, ?_, ?_, ?_, ?_⟩<;>exact (k3 _ _ hb3).trans (by assumption))
      clear hK K
      try simp only [zX,zY]
      refine zt1 12 ?_; refine ztn (h := ?_); try simp only [zX,zY]
      refine zte ?_
      refine zdn ?_
      go_wp2
      go_ret
      exact ⟨by rw [HN.out]; rfl, via0 HB3.out (via0 HB2.out (via0 HB1.out hbl.drew))⟩
    . clear Hno
      go_wp2_with fail
      refine wp_region_noPanic ?_
      refine wp_region_held_drew (S := (fun w' => w'.cell? ⟨b, o + n * 5, none⟩ = some (.int .i64 y.row) /\ w'.cell? ⟨b, o + n * 5 + 1, none⟩ = some (.int .i64 y.who) /\ w'.cell? ⟨b, o + n * 5 + 2, none⟩ = some (.int .i64 y.epoch) /\ w'.cell? ⟨b, o + n * 5 + 3, none⟩ = some (.int .i64 y.last) /\ w'.cell? ⟨b, o + n * 5 + 4, none⟩ = some (.slice y.A y.ms.length y.cap) /\ w'.cell? ⟨b, o + p * 5, none⟩ = some (.int .i64 z.row) /\ w'.cell? ⟨b, o + p * 5 + 1, none⟩ = some (.int .i64 z.who) /\ w'.cell? ⟨b, o + p * 5 + 2, none⟩ = some (.int .i64 z.epoch) /\ w'.cell? ⟨b, o + p * 5 + 3, none⟩ = some (.int .i64 z.last) /\ w'.cell? ⟨b, o + p * 5 + 4, none⟩ = some (.slice z.A z.ms.length z.cap))) (by kernel_rfl) ?_ (fun hH => ?_)
      . (refine ⟨?_, ?_, ?_, ?_, ?_, ?_, ?_, ?_, ?_, ?_⟩<;>assumption)
      refine ztk [0,1,2,3,5,6] ?_; repeat (refine ztn (h := ?_); try simp only [zX,zY])
      refine zte ?_
      refine' wpAnyH_take (i := 7) (v := _) rfl (by kernel_rfl) (by kernel_rfl) (by kernel_rfl) (fun _ _ _ h => h) (Or.inl ⟨by rfl, ?hz7⟩) (by assumption) ?rst7
      case hz7 => (intro w hSw; (try dsimp only at hSw); go_simp<;>(rw [jw.out]<;>with_reducible rfl))
      try simp only [zX,zY]
      refine ztk [8,9] ?_; repeat (refine ztn (h := ?_); try simp only [zX,zY])
      refine zte ?_
      refine zR1 4 (fun K hK => ?_)
      simp only [zG]
      go_simp
      (go_at_call 183; refine (Qd4 _ _ _ _ _ _ _ _).mono ?_; rintro e w1 ⟨rfl, g1⟩; obtain ⟨k1, m1⟩ := Qax g1; have HB1 := hidP g1)
      refine hK.out _ _ ?_ (fun hH => ?_)
      . (go_split_ands; refine ⟨?_, ?_, ?_, ?_, ?_, ?_, ?_, ?_, ?_, ?_⟩<;>exact (k1 _ _ hb1).trans (by assumption))
      clear hK K
      try simp only [zX,zY]
      refine zR1 10 (fun K hK => ?_)
      simp only [zG]
      go_simp
      (go_at_call 183; refine (Qd4 _ _ _ _ _ _ _ _).mono ?_; rintro e w2 ⟨rfl, g2⟩; obtain ⟨k2, m2⟩ := Qax g2; have HB2 := hidP g2; have hb2 := Nat.lt_of_lt_of_le hb1 HB1.out.size)
      refine hK.out _ _ ?_ (fun hH => ?_)
      . (go_split_ands; refine ⟨?_, ?_, ?_, ?_, ?_, ?_, ?_, ?_, ?_, ?_⟩<;>exact (k2 _ _ hb2).trans (by assumption))
      clear hK K
      try simp only [zX,zY]
      refine zR1 11 (fun K hK => ?_)
      simp only [zG]
      go_simp
      (go_at_call 184; refine (HC.out _).mono ?_; rintro e w3 ⟨rfl, g3⟩; obtain ⟨k3, m3⟩ := Qax g3; have HB3 := hidP g3; have hb3 := Nat.lt_of_lt_of_le hb2 HB2.out.size)
      refine hK.out _ _ ?_ (fun hH => ?_)
      . (go_split_ands; refine ⟨?_, ?_, ?_, ?_, ?_, ?_, ?_, ?_, ?_, ?_⟩<;>exact (k3 _ _ hb3).trans (by assumption))
      clear hK K
      try simp only [zX,zY]
      refine zt1 12 ?_; refine ztn (h := ?_); try simp only [zX,zY]
      refine zte ?_
      refine zdn ?_
      go_wp2
      exact ⟨⟨n + 1, by go_num, by omega, .inl (by omega), by show _ = _; rw [Hsu.out, hall.out]; rfl, via0 HB3.out (via0 HB2.out (via0 HB1.out hbl.drew))⟩, by simp [intOf]; omega⟩
  . have e : Qbn l l.length = true := by
     rcases hn with h | h
     . have : n = l.length := by omega
       rw [← this]; exact hall.out
     . subst h
       by_cases h0 : l.length = 0
       . rw [h0]; rfl
       . have : l.length = 1 := by omega
         rw [this]; exact hall.out
    have E := hidP e
    clear e
    go_wp2
    go_ret
    exact ⟨by rw [E.out]; rfl, hbl⟩
end Go.Proofs.YtkmkldjipihceaaGreat.Gen
