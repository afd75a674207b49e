/-
  What KeepOk is made of at this seat: rows, makers, groups and answers, each right; makers in order. No condition but that each list has at most 1048576 records.
-/
import Derived.Test.YtaefjifcnoiplaaGreatGpList
import Derived.Test.YtaefjifcnoiplaaGreatKeepV
import Derived.Test.YtaefjifcnoiplaaGreatGrpOk2
import Derived.Test.YtaefjifcnoiplaaGreatImplRight
import Derived.Test.YtaefjifcnoiplaaGreatSpecRowOk2
import Derived.Test.YtaefjifcnoiplaaGreatMakOk2
namespace Go.Proofs.YtaefjifcnoiplaaGreat.Gen
open Go.ChangeShapes Go.WideShapes Go.ChangeAt Go.RowKit Go.Joins Go.Deep Base
set_option linter.unusedVariables false
set_option linter.unusedSimpArgs false
def rowF (x : RC) : Bool := Items.rowB x.start x.next x.its
def makF (ro wi : Int) (x : MC) : Bool := okB x.row x.who x.epoch x.last wi x.ms && decide (x.row < ro)
def grpF (ro : Int) (x : GC) : Bool := gokB x.gen ro x.m x.b x.o
def ansF (x : An) : Bool := ansB x.code x.n x.key x.text
def behB (a b : MC) : Bool := decide (a.row < b.row) || (decide (a.row = b.row) && decide (a.who < b.who))
def ordAt (l : List MC) (i : Nat) : Bool := decide (i = 0) || behB (l.getD (i - 1) default) (l.getD i default)
def ordTo (l : List MC) (n : Nat) : Bool := (List.range n).all (ordAt l)
theorem ordTo_succ (l : List MC) (n : Nat) : ordTo l (n + 1) = (ordTo l n && ordAt l n) := by simp [ordTo, List.range_succ]
theorem ordTo_no {l : List MC} {n : Nat} (h : n < l.length) (hx : ordAt l n = false) : ordTo l l.length = false := by
  unfold ordTo; rw [List.all_eq_false]; exact ⟨n, by simpa using h, by simp [hx]⟩
theorem ordAt_is {l : List MC} {p : Nat} (h : p + 1 < l.length) : ordAt l (p + 1) = behB (l[p]'(by omega)) l[p + 1] := by
  have h0 : p < l.length := by omega
  simp [ordAt, h, h0]
theorem all_succ {α : Type} (f : α -> Bool) {l : List α} {n : Nat} (h : n < l.length) : (l.take (n + 1)).all f = ((l.take n).all f && f l[n]) := by
  rw [List.take_succ_eq_append_getElem h, List.all_append]; simp
theorem all_no {α : Type} (f : α -> Bool) {l : List α} {n : Nat} (h : n < l.length) (hx : f l[n] = false) : l.all f = false := by
  rw [List.all_eq_false]; exact ⟨l[n], List.getElem_mem h, by simp [hx]⟩
def keepB (ro wi le ke : Int) (x : KC) : Bool :=
  setB ro wi le ke && decide ((x.rs.length : Int) = ro) && x.rs.all rowF && ordTo x.ms x.ms.length && x.ms.all (makF ro wi) && decide ((x.gs.length : Int) = 2) && x.gs.all (grpF ro) && inB x.time 0 100000 && decide ((x.ds.length : Int) = 4) && numTo x.ds x.ds.length && decide ((x.ls.length : Int) = 4) && x.ls.all ansF
structure KAsk (x : KC) : Prop where
  fit : KFit x
  rr : ∀ y ∈ x.rs, y.right
  lr : ∀ y ∈ x.ls, y.right
set_option maxRecDepth 100000 in
theorem makClosure_any (x : MC) (ro wi le ke : Int) (Bs : Nat) (hl : x.ms.length <= 1048576) (w : World) (hs : Blk w Bs 39 #[.int .i64 ro, .int .i64 wi, .int .i64 le, .int .i64 ke]) (hat : At w x.A x.ms) :
    Calls Tryz.prog 102 #[.agg #[.int .i64 x.row, .int .i64 x.who, .int .i64 x.epoch, .int .i64 x.last, .slice x.A x.ms.length x.cap], .pointer (some ⟨Bs, 0, none⟩)] w fun e w' => e = .returned (.bool (makF ro wi x)) /\ Below w.heap.size w w' := by
  have Hat := hidP hat
  have hne : Bs < w.heap.size := hs.lt
  obtain ⟨s0, s1, s2, s3⟩ := hs.row4
  clear hat
  obtain ⟨b, hb⟩ : ∃ b, okB x.row x.who x.epoch x.last wi x.ms = b := ⟨_, rfl⟩
  have HC : Hid (∀ W : World, Below w.heap.size w W -> Calls Tryz.prog 103 #[.agg #[.int .i64 x.row, .int .i64 x.who, .int .i64 x.epoch, .int .i64 x.last, .slice x.A x.ms.length x.cap], .int .i64 wi] W fun e w' => e = .returned (.bool b) /\ Below W.heap.size W w') := fun W g => hb ▸ implOk_is _ _ _ _ _ _ _ _ hl W (Hat.out.below g)
  have hF : Hid (makF ro wi x = (b && decide (x.row < ro))) := by show _ = _; rw [makF, hb]
  clear hb
  cases b
  all_goals
    go_enter Tryz.func102, Tryz.ntmps102
    go_wp2_with fail
    refine (HC.out _ (alloc0 (Below.refl _ _) _)).mono ?_
    rintro e w1 ⟨rfl, g1⟩
    have B1 : Below w.heap.size w w1 := via0 g1 (alloc0 (Below.refl _ _) _)
    have p1 := (Blk.new w 155 #[.int .i64 x.row, .int .i64 x.who, .int .i64 x.epoch, .int .i64 x.last, .slice x.A x.ms.length x.cap]).below g1 (by simp)
    obtain ⟨u0, u1, u2, u3, u4⟩ := p1.row5
    have q1 := p1.lt
    obtain ⟨k1, m1⟩ := bcell B1
    have z0 := (k1 _ 0 hne).trans s0
    have q2 : Bs < w1.heap.size := Nat.lt_of_lt_of_le hne B1.size
    go_wp2
    go_ret
    exact ⟨by rw [hF.out]; first | rfl | simp, B1⟩
set_option maxRecDepth 100000 in
theorem grpClosure_any (x : GC) (ro wi le ke : Int) (Bs : Nat) (hl : x.m.length <= 1048576 /\ x.b.length <= 1048576 /\ x.o.length <= 1048576) (w : World) (hs : Blk w Bs 39 #[.int .i64 ro, .int .i64 wi, .int .i64 le, .int .i64 ke]) (hat : atG w x) :
    Calls Tryz.prog 105 #[.agg #[.int .i64 x.gen, .slice x.a1 x.m.length x.c1, .slice x.a2 x.b.length x.c2, .slice x.a3 x.o.length x.c3], .pointer (some ⟨Bs, 0, none⟩)] w fun e w' => e = .returned (.bool (grpF ro x)) /\ Below w.heap.size w w' := by
  have Hat := hidP hat
  have hne : Bs < w.heap.size := hs.lt
  obtain ⟨s0, s1, s2, s3⟩ := hs.row4
  clear hat
  have HC : Hid (∀ W : World, Below w.heap.size w W -> Calls Tryz.prog 106 #[.agg #[.int .i64 x.gen, .slice x.a1 x.m.length x.c1, .slice x.a2 x.b.length x.c2, .slice x.a3 x.o.length x.c3], .int .i64 ro] W fun e w' => e = .returned (.bool (grpF ro x)) /\ Below W.heap.size W w') := fun W g => implGok_any _ _ _ _ _ _ _ _ _ _ _ hl W (Hat.out.below g).1 (Hat.out.below g).2.1 (Hat.out.below g).2.2
  go_enter Tryz.func105, Tryz.ntmps105
  go_wp2_with fail
  refine (HC.out _ (alloc0 (Below.refl _ _) _)).mono ?_
  rintro e w1 ⟨rfl, g1⟩
  go_wp2
  go_ret
  exact ⟨rfl, via0 g1 (alloc0 (Below.refl _ _) _)⟩
set_option maxRecDepth 100000 in
set_option maxHeartbeats 1000000 in
theorem eachRow_any (A : Option Addr) (cap : Nat) (l : List RC) (hl : l.length <= 1048576) (hs : ∀ x ∈ l, x.its.length <= 1048576) (hr : ∀ x ∈ l, x.right) (w : World) (hA : At w A l) (hE : EachR w l) :
    Calls Tryz.prog 98 #[.slice A l.length cap, .func (.func 99) #[] #[]] w fun e w' => e = .returned (.bool (l.all rowF)) /\ Below w.heap.size w w' := by
  have HA := hidP hA
  have HE := hidP hE
  have Hs := hidP hs
  have Hr := hidP hr
  clear hA hE hs hr
  go_enter Tryz.func98, Tryz.ntmps98
  go_wp2
  go_loopw [9] (fun i w' => ∃ (n : Nat), i = .int .i64 (n : Int) /\ n <= l.length /\ Hid ((l.take n).all rowF = true) /\ Below w.heap.size w w') (fun i _ => l.length - (intOf i).toNat)
  case atStart => exact ⟨0, rfl, by omega, rfl, Below.refl _ _⟩
  case round =>
    obtain ⟨n, rfl, hn, hall, hbl⟩ := hrel
    by_cases hlt : n < l.length
    . obtain ⟨b, o, rfl, hbs, hIn⟩ : ∃ b o, A = some ⟨b, o, none⟩ /\ b < w.heap.size /\ In w b o l := by
        rcases HA.out with h | h
        . subst h; simp at hlt
        . exact h
      obtain ⟨c0, c1, c2⟩ := (hIn.below hbs hbl).getRC n hlt
      have HC : ∀ W : World, Below wr.heap.size wr W -> Calls Tryz.prog 99 #[.agg #[.int .i64 l[n].start, .int .i64 l[n].next, .slice l[n].A l[n].its.length l[n].cap]] W fun e w' => e = .returned (.bool (rowF l[n])) /\ Below W.heap.size W w' := fun W g => Items.implRowOk_any _ _ _ _ _ (by have := Hs.out _ (List.getElem_mem hlt); omega) (fun y hy => ((Hr.out _ (List.getElem_mem hlt)).2.2.2 y hy).2.2.2) W (((HE.out _ (List.getElem_mem hlt)).below hbl).below g)
      have hsu := all_succ rowF hlt
      have hno := all_no rowF hlt
      generalize hb : rowF l[n] = bb at HC hsu hno
      have HC := hidP HC
      have Hsu := hidP hsu
      have Hno := hidP hno
      clear hb hsu hno
      cases bb
      . have HN := hidP (Hno.out rfl)
        clear Hno Hsu
        go_wp2_with fail
        refine (HC.out _ (alloc0 (Below.refl _ _) _)).mono ?_
        rintro e w1 ⟨rfl, g1⟩
        go_wp2
        go_ret
        exact ⟨by rw [HN.out]; rfl, via0 g1 (alloc0 hbl _)⟩
      . clear Hno
        go_wp2_with fail
        refine (HC.out _ (alloc0 (Below.refl _ _) _)).mono ?_
        rintro e w1 ⟨rfl, g1⟩
        go_wp2
        exact ⟨⟨n + 1, by go_num, by omega, by show _ = _; rw [Hsu.out, hall.out]; rfl, via0 g1 (alloc0 hbl _)⟩, by simp [intOf]; omega⟩
    . have e : l.take n = l := List.take_of_length_le (by omega)
      go_wp2
      go_ret
      have h := hall.out
      rw [e] at h
      exact ⟨by rw [h]; rfl, hbl⟩
set_option maxRecDepth 100000 in
set_option maxHeartbeats 1000000 in
theorem eachMaker_any (ro wi le ke : Int) (Bs : Nat) (A : Option Addr) (cap : Nat) (l : List MC) (hl : l.length <= 1048576) (hs : ∀ x ∈ l, x.ms.length <= 1048576) (w : World) (hB : Blk w Bs 39 #[.int .i64 ro, .int .i64 wi, .int .i64 le, .int .i64 ke]) (hA : At w A l) (hE : Each w l) :
    Calls Tryz.prog 101 #[.slice A l.length cap, .func (.func 102) #[] #[.pointer (some ⟨Bs, 0, none⟩)]] w fun e w' => e = .returned (.bool (l.all (makF ro wi))) /\ Below w.heap.size w w' := by
  have HA := hidP hA
  have HE := hidP hE
  have Hs := hidP hs
  have HB := hidP hB
  clear hA hE hs hB
  go_enter Tryz.func101, Tryz.ntmps101
  go_wp2
  go_loopw [9] (fun i w' => ∃ (n : Nat), i = .int .i64 (n : Int) /\ n <= l.length /\ Hid ((l.take n).all (makF ro wi) = true) /\ Below w.heap.size w w') (fun i _ => l.length - (intOf i).toNat)
  case atStart => exact ⟨0, rfl, by omega, rfl, Below.refl _ _⟩
  case round =>
    obtain ⟨n, rfl, hn, hall, hbl⟩ := hrel
    by_cases hlt : n < l.length
    . obtain ⟨b, o, rfl, hbs, hIn⟩ : ∃ b o, A = some ⟨b, o, none⟩ /\ b < w.heap.size /\ In w b o l := by
        rcases HA.out with h | h
        . subst h; simp at hlt
        . exact h
      obtain ⟨c0, c1, c2, c3, c4⟩ := (hIn.below hbs hbl).getMC n hlt
      have HC : ∀ W : World, Below wr.heap.size wr W -> Calls Tryz.prog 102 #[.agg #[.int .i64 l[n].row, .int .i64 l[n].who, .int .i64 l[n].epoch, .int .i64 l[n].last, .slice l[n].A l[n].ms.length l[n].cap], .pointer (some ⟨Bs, 0, none⟩)] W fun e w' => e = .returned (.bool ((makF ro wi) l[n])) /\ Below W.heap.size W w' := fun W g => makClosure_any l[n] ro wi le ke Bs (Hs.out _ (List.getElem_mem hlt)) W ((HB.out.below hbl HB.out.lt).below g (Nat.lt_of_lt_of_le HB.out.lt hbl.size)) (((HE.out _ (List.getElem_mem hlt)).below hbl).below g)
      have hsu := all_succ (makF ro wi) hlt
      have hno := all_no (makF ro wi) hlt
      generalize hb : (makF ro wi) l[n] = bb at HC hsu hno
      have HC := hidP HC
      have Hsu := hidP hsu
      have Hno := hidP hno
      clear hb hsu hno
      cases bb
      . have HN := hidP (Hno.out rfl)
        clear Hno Hsu
        go_wp2_with fail
        refine (HC.out _ (alloc0 (Below.refl _ _) _)).mono ?_
        rintro e w1 ⟨rfl, g1⟩
        go_wp2
        go_ret
        exact ⟨by rw [HN.out]; rfl, via0 g1 (alloc0 hbl _)⟩
      . clear Hno
        go_wp2_with fail
        refine (HC.out _ (alloc0 (Below.refl _ _) _)).mono ?_
        rintro e w1 ⟨rfl, g1⟩
        go_wp2
        exact ⟨⟨n + 1, by go_num, by omega, by show _ = _; rw [Hsu.out, hall.out]; rfl, via0 g1 (alloc0 hbl _)⟩, by simp [intOf]; omega⟩
    . have e : l.take n = l := List.take_of_length_le (by omega)
      go_wp2
      go_ret
      have h := hall.out
      rw [e] at h
      exact ⟨by rw [h]; rfl, hbl⟩
set_option maxRecDepth 100000 in
set_option maxHeartbeats 1000000 in
theorem eachGroup_any (ro wi le ke : Int) (Bs : Nat) (A : Option Addr) (cap : Nat) (l : List GC) (hl : l.length <= 1048576) (hs : ∀ x ∈ l, x.m.length <= 1048576 /\ x.b.length <= 1048576 /\ x.o.length <= 1048576) (w : World) (hB : Blk w Bs 39 #[.int .i64 ro, .int .i64 wi, .int .i64 le, .int .i64 ke]) (hA : At w A l) (hE : EachG w l) :
    Calls Tryz.prog 104 #[.slice A l.length cap, .func (.func 105) #[] #[.pointer (some ⟨Bs, 0, none⟩)]] w fun e w' => e = .returned (.bool (l.all (grpF ro))) /\ Below w.heap.size w w' := by
  have HA := hidP hA
  have HE := hidP hE
  have Hs := hidP hs
  have HB := hidP hB
  clear hA hE hs hB
  go_enter Tryz.func104, Tryz.ntmps104
  go_wp2
  go_loopw [9] (fun i w' => ∃ (n : Nat), i = .int .i64 (n : Int) /\ n <= l.length /\ Hid ((l.take n).all (grpF ro) = true) /\ Below w.heap.size w w') (fun i _ => l.length - (intOf i).toNat)
  case atStart => exact ⟨0, rfl, by omega, rfl, Below.refl _ _⟩
  case round =>
    obtain ⟨n, rfl, hn, hall, hbl⟩ := hrel
    by_cases hlt : n < l.length
    . obtain ⟨b, o, rfl, hbs, hIn⟩ : ∃ b o, A = some ⟨b, o, none⟩ /\ b < w.heap.size /\ In w b o l := by
        rcases HA.out with h | h
        . subst h; simp at hlt
        . exact h
      obtain ⟨c0, c1, c2, c3⟩ := (hIn.below hbs hbl).getGC n hlt
      have HC : ∀ W : World, Below wr.heap.size wr W -> Calls Tryz.prog 105 #[.agg #[.int .i64 l[n].gen, .slice l[n].a1 l[n].m.length l[n].c1, .slice l[n].a2 l[n].b.length l[n].c2, .slice l[n].a3 l[n].o.length l[n].c3], .pointer (some ⟨Bs, 0, none⟩)] W fun e w' => e = .returned (.bool ((grpF ro) l[n])) /\ Below W.heap.size W w' := fun W g => grpClosure_any l[n] ro wi le ke Bs (Hs.out _ (List.getElem_mem hlt)) W ((HB.out.below hbl HB.out.lt).below g (Nat.lt_of_lt_of_le HB.out.lt hbl.size)) (((HE.out _ (List.getElem_mem hlt)).below hbl).below g)
      have hsu := all_succ (grpF ro) hlt
      have hno := all_no (grpF ro) hlt
      generalize hb : (grpF ro) l[n] = bb at HC hsu hno
      have HC := hidP HC
      have Hsu := hidP hsu
      have Hno := hidP hno
      clear hb hsu hno
      cases bb
      . have HN := hidP (Hno.out rfl)
        clear Hno Hsu
        go_wp2_with fail
        refine (HC.out _ (alloc0 (Below.refl _ _) _)).mono ?_
        rintro e w1 ⟨rfl, g1⟩
        go_wp2
        go_ret
        exact ⟨by rw [HN.out]; rfl, via0 g1 (alloc0 hbl _)⟩
      . clear Hno
        go_wp2_with fail
        refine (HC.out _ (alloc0 (Below.refl _ _) _)).mono ?_
        rintro e w1 ⟨rfl, g1⟩
        go_wp2
        exact ⟨⟨n + 1, by go_num, by omega, by show _ = _; rw [Hsu.out, hall.out]; rfl, via0 g1 (alloc0 hbl _)⟩, by simp [intOf]; omega⟩
    . have e : l.take n = l := List.take_of_length_le (by omega)
      go_wp2
      go_ret
      have h := hall.out
      rw [e] at h
      exact ⟨by rw [h]; rfl, hbl⟩
set_option maxRecDepth 100000 in
set_option maxHeartbeats 1000000 in
theorem eachAnswer_any (A : Option Addr) (cap : Nat) (l : List An) (hl : l.length <= 1048576) (hr : ∀ x ∈ l, x.right) (w : World) (hA : At w A l) :
    Calls Tryz.prog 108 #[.slice A l.length cap, .func (.func 109) #[] #[]] w fun e w' => e = .returned (.bool (l.all ansF)) /\ Below w.heap.size w w' := by
  have HA := hidP hA
  have Hr := hidP hr
  clear hA hr
  go_enter Tryz.func108, Tryz.ntmps108
  go_wp2
  go_loopw [9] (fun i w' => ∃ (n : Nat), i = .int .i64 (n : Int) /\ n <= l.length /\ Hid ((l.take n).all ansF = true) /\ Below w.heap.size w w') (fun i _ => l.length - (intOf i).toNat)
  case atStart => exact ⟨0, rfl, by omega, rfl, Below.refl _ _⟩
  case round =>
    obtain ⟨n, rfl, hn, hall, hbl⟩ := hrel
    by_cases hlt : n < l.length
    . obtain ⟨b, o, rfl, hbs, hIn⟩ : ∃ b o, A = some ⟨b, o, none⟩ /\ b < w.heap.size /\ In w b o l := by
        rcases HA.out with h | h
        . subst h; simp at hlt
        . exact h
      obtain ⟨c0, c1, c2, c3⟩ := (hIn.below hbs hbl).getAn n hlt
      have HC : ∀ W : World, Below wr.heap.size wr W -> Calls Tryz.prog 109 #[.agg #[.int .i64 l[n].code, .int .i64 l[n].n, .string l[n].key, .string l[n].text]] W fun e w' => e = .returned (.bool (ansF l[n])) /\ Below W.heap.size W w' := fun W g => implAnswer_any _ _ _ _ (Hr.out _ (List.getElem_mem hlt)).2.2.1 (Hr.out _ (List.getElem_mem hlt)).2.2.2 W
      have hsu := all_succ ansF hlt
      have hno := all_no ansF hlt
      generalize hb : ansF l[n] = bb at HC hsu hno
      have HC := hidP HC
      have Hsu := hidP hsu
      have Hno := hidP hno
      clear hb hsu hno
      cases bb
      . have HN := hidP (Hno.out rfl)
        clear Hno Hsu
        go_wp2_with fail
        refine (HC.out _ (alloc0 (Below.refl _ _) _)).mono ?_
        rintro e w1 ⟨rfl, g1⟩
        go_wp2
        go_ret
        exact ⟨by rw [HN.out]; rfl, via0 g1 (alloc0 hbl _)⟩
      . clear Hno
        go_wp2_with fail
        refine (HC.out _ (alloc0 (Below.refl _ _) _)).mono ?_
        rintro e w1 ⟨rfl, g1⟩
        go_wp2
        exact ⟨⟨n + 1, by go_num, by omega, by show _ = _; rw [Hsu.out, hall.out]; rfl, via0 g1 (alloc0 hbl _)⟩, by simp [intOf]; omega⟩
    . have e : l.take n = l := List.take_of_length_le (by omega)
      go_wp2
      go_ret
      have h := hall.out
      rw [e] at h
      exact ⟨by rw [h]; rfl, hbl⟩
set_option maxRecDepth 100000 in
theorem keyM_any (row who epoch last : Int) (a : Option Addr) (n c : Nat) (w : World) :
    Calls Tryz.prog 149 #[.agg #[.int .i64 row, .int .i64 who, .int .i64 epoch, .int .i64 last, .slice a n c]] w fun e w' => e = .returned (.agg #[.int .i64 row, .int .i64 who, .int .i64 0]) /\ Below w.heap.size w w' := by
  go_enter Tryz.func149, Tryz.ntmps149
  go_wp2
  exact bodyPost_ret (v := .agg #[.int .i64 row, .int .i64 who, .int .i64 0]) (by simp [results, Tryz.results149, go_sem]) rfl
    ⟨rfl, by repeat (first | exact Below.refl _ _ | refine Below.drew ?_ | refine Below.alloc ?_ (by simp<;>omega) _ | refine Below.setCell ?_ (by simp<;>omega) _)⟩
theorem isBehind_any (y z : MC) (w : World) :
    Calls Tryz.prog 150 #[.agg #[.int .i64 y.row, .int .i64 y.who, .int .i64 0], .agg #[.int .i64 z.row, .int .i64 z.who, .int .i64 0]] w fun e w' => e = .returned (.bool (behB z y)) /\ Below w.heap.size w w' := by
  by_cases h : y.row = z.row
  . have hF : Hid (behB z y = decide (z.who < y.who)) := by show _ = _; simp [behB, h]
    have h1 : (y.row != z.row) = false := by simp [h]
    go_enter Tryz.func150, Tryz.ntmps150
    go_wp2
    go_ret
    exact ⟨by rw [hF.out]; first | rfl | simp, by repeat (first | exact Below.refl _ _ | assumption | refine via0 (by assumption) ?_ | refine Below.drew ?_ | refine alloc0 ?_ _)⟩
  . have hF : Hid (behB z y = decide (z.row < y.row)) := by show _ = _; simp [behB, Ne.symm h]
    have h1 : (y.row != z.row) = true := by simp [h]
    go_enter Tryz.func150, Tryz.ntmps150
    go_wp2
    go_ret
    exact ⟨by rw [hF.out]; first | rfl | simp, by repeat (first | exact Below.refl _ _ | assumption | refine via0 (by assumption) ?_ | refine Below.drew ?_ | refine alloc0 ?_ _)⟩
set_option maxRecDepth 100000 in
set_option maxHeartbeats 1000000 in
theorem inOrderM_any (A : Option Addr) (cap : Nat) (l : List MC) (hl : l.length <= 1048576) (w : World) (hA : At w A l) :
    Calls Tryz.prog 100 #[.slice A l.length cap] w fun e w' => e = .returned (.bool (ordTo l l.length)) /\ Below w.heap.size w w' := by
  have HA := hidP hA
  clear hA
  go_enter Tryz.func100, Tryz.ntmps100
  go_wp2
  go_loopw [3] (fun i w' => ∃ (n : Nat), i = .int .i64 (n : Int) /\ 1 <= n /\ (n <= l.length ∨ n = 1) /\ Hid (ordTo l n = true) /\ Below w.heap.size w w') (fun i _ => l.length - (intOf i).toNat)
  case atStart => exact ⟨1, rfl, by omega, .inr rfl, by show _ = _; simp [ordTo, ordAt, List.range_succ], Below.refl _ _⟩
  case round =>
    obtain ⟨n, rfl, hn1, hn, hall, hbl⟩ := hrel
    by_cases hlt : n < l.length
    . obtain ⟨b, o, rfl, hbs, hIn⟩ : ∃ b o, A = some ⟨b, o, none⟩ /\ b < w.heap.size /\ In w b o l := by
        rcases HA.out with h | h
        . subst h; simp at hlt
        . exact h
      obtain ⟨p, hpn⟩ : ∃ p, n = p + 1 := ⟨n - 1, by omega⟩
      have hpl : p < l.length := by omega
      obtain ⟨c0, c1, c2, c3, c4⟩ := (hIn.below hbs hbl).getMC n hlt
      obtain ⟨d0, d1, d2, d3, d4⟩ := (hIn.below hbs hbl).getMC p hpl
      have hb1 : b < wr.heap.size := Nat.lt_of_lt_of_le hbs hbl.size
      have hi0 : (0 : Int) <= (n : Int) := by omega
      have hi1 : (n : Int) < (l.length : Int) := by omega
      have j0 : (0 : Int) <= (p : Int) := by omega
      have j1 : (p : Int) < (l.length : Int) := by omega
      have jw : Hid (IntKind.i64.wrap ((n : Int) - 1) = (p : Int)) := by
        show IntKind.i64.wrap ((n : Int) - 1) = (p : Int)
        rw [IntKind.wrap_i64]; omega
      have hsu := ordTo_succ l n
      have hno := ordTo_no hlt
      have hoa : ordAt l n = behB l[p] l[n] := by subst hpn; exact ordAt_is hlt
      rw [hoa] at hsu hno
      clear hoa hpn
      generalize l[n] = y at c0 c1 c2 c3 c4 hsu hno
      generalize l[p] = z at d0 d1 d2 d3 d4 hsu hno
      have HC : ∀ W : World, Calls Tryz.prog 150 #[.agg #[.int .i64 y.row, .int .i64 y.who, .int .i64 0], .agg #[.int .i64 z.row, .int .i64 z.who, .int .i64 0]] W fun e w' => e = .returned (.bool (behB z y)) /\ Below W.heap.size W w' := fun W => isBehind_any y z W
      generalize behB z y = bb at HC hsu hno
      have HC := hidP HC
      have Hsu := hidP hsu
      have Hno := hidP hno
      clear hsu hno
      cases bb
      . have HN := hidP (Hno.out rfl)
        clear Hno Hsu
        go_wp2_with fail
        refine wp_region_noPanic ?_
        refine wp_region_held_drew (S := (fun w' => w'.cell? ⟨b, o + n * 5, none⟩ = some (.int .i64 y.row) /\ w'.cell? ⟨b, o + n * 5 + 1, none⟩ = some (.int .i64 y.who) /\ w'.cell? ⟨b, o + n * 5 + 2, none⟩ = some (.int .i64 y.epoch) /\ w'.cell? ⟨b, o + n * 5 + 3, none⟩ = some (.int .i64 y.last) /\ w'.cell? ⟨b, o + n * 5 + 4, none⟩ = some (.slice y.A y.ms.length y.cap) /\ w'.cell? ⟨b, o + p * 5, none⟩ = some (.int .i64 z.row) /\ w'.cell? ⟨b, o + p * 5 + 1, none⟩ = some (.int .i64 z.who) /\ w'.cell? ⟨b, o + p * 5 + 2, none⟩ = some (.int .i64 z.epoch) /\ w'.cell? ⟨b, o + p * 5 + 3, none⟩ = some (.int .i64 z.last) /\ w'.cell? ⟨b, o + p * 5 + 4, none⟩ = some (.slice z.A z.ms.length z.cap))) (by kernel_rfl) ?_ (fun hH => ?_)
        . (refine ⟨?_, ?_, ?_, ?_, ?_, ?_, ?_, ?_, ?_, ?_⟩<;>assumption)
        refine ztk [0,1,2,3,5,6] ?_; repeat (refine ztn (h := ?_); try simp only [zX,zY])
        refine zte ?_
        refine' wpAnyH_take (i := 7) (v := _) rfl (by kernel_rfl) (by kernel_rfl) (by kernel_rfl) (fun _ _ _ h => h) (Or.inl ⟨by rfl, ?hy7⟩) (by assumption) ?rest7
        case hy7 => (intro w hSw; (try dsimp only at hSw); go_simp<;>(rw [jw.out]<;>with_reducible rfl))
        try simp only [zX,zY]
        refine ztk [8,9] ?_; repeat (refine ztn (h := ?_); try simp only [zX,zY])
        refine zte ?_
        refine zR1 4 (fun K hK => ?_)
        simp only [zG]
        go_simp
        (go_at_call 149; refine (keyM_any _ _ _ _ _ _ _ _).mono ?_; rintro e w1 ⟨rfl, g1⟩; obtain ⟨k1, m1⟩ := bcell g1; have HB1 := hidP g1)
        refine hK.out _ _ ?_ (fun hH => ?_)
        . (go_split_ands; refine ⟨?_, ?_, ?_, ?_, ?_, ?_, ?_, ?_, ?_, ?_⟩<;>exact (k1 _ _ hb1).trans (by assumption))
        clear hK K
        try simp only [zX,zY]
        refine zR1 10 (fun K hK => ?_)
        simp only [zG]
        go_simp
        (go_at_call 149; refine (keyM_any _ _ _ _ _ _ _ _).mono ?_; rintro e w2 ⟨rfl, g2⟩; obtain ⟨k2, m2⟩ := bcell g2; have HB2 := hidP g2; have hb2 := Nat.lt_of_lt_of_le hb1 HB1.out.size)
        refine hK.out _ _ ?_ (fun hH => ?_)
        . (go_split_ands; refine ⟨?_, ?_, ?_, ?_, ?_, ?_, ?_, ?_, ?_, ?_⟩<;>exact (k2 _ _ hb2).trans (by assumption))
        clear hK K
        try simp only [zX,zY]
        refine zR1 11 (fun K hK => ?_)
        simp only [zG]
        go_simp
        (go_at_call 150; refine (HC.out _).mono ?_; rintro e w3 ⟨rfl, g3⟩; obtain ⟨k3, m3⟩ := bcell g3; have HB3 := hidP g3; have hb3 := Nat.lt_of_lt_of_le hb2 HB2.out.size)
        refine hK.out _ _ ?_ (fun hH => ?_)
        . (go_split_ands; refine ⟨?_, ?_, ?_, ?_, ?_, ?_, ?_, ?_, ?_, ?_⟩<;>exact (k3 _ _ hb3).trans (by assumption))
        clear hK K
        try simp only [zX,zY]
        refine zt1 12 ?_; refine ztn (h := ?_); try simp only [zX,zY]
        refine zte ?_
        refine zdn ?_
        go_wp2
        go_ret
        exact ⟨by rw [HN.out]; rfl, via0 HB3.out (via0 HB2.out (via0 HB1.out hbl.drew))⟩
      . clear Hno
        go_wp2_with fail
        refine wp_region_noPanic ?_
        refine wp_region_held_drew (S := (fun w' => w'.cell? ⟨b, o + n * 5, none⟩ = some (.int .i64 y.row) /\ w'.cell? ⟨b, o + n * 5 + 1, none⟩ = some (.int .i64 y.who) /\ w'.cell? ⟨b, o + n * 5 + 2, none⟩ = some (.int .i64 y.epoch) /\ w'.cell? ⟨b, o + n * 5 + 3, none⟩ = some (.int .i64 y.last) /\ w'.cell? ⟨b, o + n * 5 + 4, none⟩ = some (.slice y.A y.ms.length y.cap) /\ w'.cell? ⟨b, o + p * 5, none⟩ = some (.int .i64 z.row) /\ w'.cell? ⟨b, o + p * 5 + 1, none⟩ = some (.int .i64 z.who) /\ w'.cell? ⟨b, o + p * 5 + 2, none⟩ = some (.int .i64 z.epoch) /\ w'.cell? ⟨b, o + p * 5 + 3, none⟩ = some (.int .i64 z.last) /\ w'.cell? ⟨b, o + p * 5 + 4, none⟩ = some (.slice z.A z.ms.length z.cap))) (by kernel_rfl) ?_ (fun hH => ?_)
        . (refine ⟨?_, ?_, ?_, ?_, ?_, ?_, ?_, ?_, ?_, ?_⟩<;>assumption)
        refine ztk [0,1,2,3,5,6] ?_; repeat (refine ztn (h := ?_); try simp only [zX,zY])
        refine zte ?_
        refine' wpAnyH_take (i := 7) (v := _) rfl (by kernel_rfl) (by kernel_rfl) (by kernel_rfl) (fun _ _ _ h => h) (Or.inl ⟨by rfl, ?hz7⟩) (by assumption) ?rst7
        case hz7 => (intro w hSw; (try dsimp only at hSw); go_simp<;>(rw [jw.out]<;>with_reducible rfl))
        try simp only [zX,zY]
        refine ztk [8,9] ?_; repeat (refine ztn (h := ?_); try simp only [zX,zY])
        refine zte ?_
        refine zR1 4 (fun K hK => ?_)
        simp only [zG]
        go_simp
        (go_at_call 149; refine (keyM_any _ _ _ _ _ _ _ _).mono ?_; rintro e w1 ⟨rfl, g1⟩; obtain ⟨k1, m1⟩ := bcell g1; have HB1 := hidP g1)
        refine hK.out _ _ ?_ (fun hH => ?_)
        . (go_split_ands; refine ⟨?_, ?_, ?_, ?_, ?_, ?_, ?_, ?_, ?_, ?_⟩<;>exact (k1 _ _ hb1).trans (by assumption))
        clear hK K
        try simp only [zX,zY]
        refine zR1 10 (fun K hK => ?_)
        simp only [zG]
        go_simp
        (go_at_call 149; refine (keyM_any _ _ _ _ _ _ _ _).mono ?_; rintro e w2 ⟨rfl, g2⟩; obtain ⟨k2, m2⟩ := bcell g2; have HB2 := hidP g2; have hb2 := Nat.lt_of_lt_of_le hb1 HB1.out.size)
        refine hK.out _ _ ?_ (fun hH => ?_)
        . (go_split_ands; refine ⟨?_, ?_, ?_, ?_, ?_, ?_, ?_, ?_, ?_, ?_⟩<;>exact (k2 _ _ hb2).trans (by assumption))
        clear hK K
        try simp only [zX,zY]
        refine zR1 11 (fun K hK => ?_)
        simp only [zG]
        go_simp
        (go_at_call 150; refine (HC.out _).mono ?_; rintro e w3 ⟨rfl, g3⟩; obtain ⟨k3, m3⟩ := bcell g3; have HB3 := hidP g3; have hb3 := Nat.lt_of_lt_of_le hb2 HB2.out.size)
        refine hK.out _ _ ?_ (fun hH => ?_)
        . (go_split_ands; refine ⟨?_, ?_, ?_, ?_, ?_, ?_, ?_, ?_, ?_, ?_⟩<;>exact (k3 _ _ hb3).trans (by assumption))
        clear hK K
        try simp only [zX,zY]
        refine zt1 12 ?_; refine ztn (h := ?_); try simp only [zX,zY]
        refine zte ?_
        refine zdn ?_
        go_wp2
        exact ⟨⟨n + 1, by go_num, by omega, .inl (by omega), by show _ = _; rw [Hsu.out, hall.out]; rfl, via0 HB3.out (via0 HB2.out (via0 HB1.out hbl.drew))⟩, by simp [intOf]; omega⟩
    . have e : ordTo l l.length = true := by
        rcases hn with h | h
        . have : n = l.length := by omega
          rw [← this]; exact hall.out
        . subst h
          by_cases h0 : l.length = 0
          . rw [h0]; rfl
          . have : l.length = 1 := by omega
            rw [this]; exact hall.out
      have E := hidP e
      clear e
      go_wp2
      go_ret
      exact ⟨by rw [E.out]; rfl, hbl⟩
end Go.Proofs.YtaefjifcnoiplaaGreat.Gen

/-
  The specification's makers at this seat: each right, and in order. No condition but that there are at most 1048576.
-/
namespace Go.Proofs.YtaefjifcnoiplaaGreat.Gen
open Go.ChangeShapes Go.WideShapes Go.ChangeAt Go.RowKit Go.Joins Go.Deep Base
set_option linter.unusedVariables false
set_option linter.unusedSimpArgs false
set_option maxRecDepth 100000 in
set_option maxHeartbeats 6400000 in
theorem specMakers_any (ro wi le ke : Int) (A : Option Addr) (cap : Nat) (l : List MC) (hl : l.length <= 1048576) (hs : ∀ x ∈ l, x.ms.length <= 1048576) (w : World) (hA : At w A l) (hE : Each w l) :
    Calls Tryz.prog 78 #[.agg #[.int .i64 ro, .int .i64 wi, .int .i64 le, .int .i64 ke], .slice A l.length cap] w fun e w' => e = .returned (.bool (l.all (makF ro wi) && ordTo l l.length)) /\ Below w.heap.size w w' := by
  have HA := hidP hA
  have HE := hidP hE
  have Hs := hidP hs
  clear hA hE hs
  go_enter Tryz.func78, Tryz.ntmps78
  go_wp2
  go_loopw [5] (fun i w' => ∃ (n : Nat), i = .int .i64 (n : Int) /\ n <= l.length /\ Hid ((l.take n).all (makF ro wi) = true) /\ Hid (ordTo l n = true) /\ Hid (Blk w' w.heap.size 39 #[.int .i64 ro, .int .i64 wi, .int .i64 le, .int .i64 ke]) /\ Below w.heap.size w w') (fun i _ => l.length - (intOf i).toNat)
  case atStart => exact ⟨0, rfl, by omega, rfl, rfl, Blk.new w _ _, by repeat (first | exact Below.refl _ _ | assumption | refine via0 (by assumption) ?_ | refine Below.drew ?_ | refine alloc0 ?_ _)⟩
  case round =>
    obtain ⟨n, rfl, hn, hal, hO, P0, hbl⟩ := hrel
    by_cases hlt : n < l.length
    . obtain ⟨b, o, rfl, hbs, hIn⟩ : ∃ b o, A = some ⟨b, o, none⟩ /\ b < w.heap.size /\ In w b o l := by
        rcases HA.out with h | h
        . subst h; simp at hlt
        . exact h
      obtain ⟨c0, c1, c2, c3, c4⟩ := (hIn.below hbs hbl).getMC n hlt
      have hat := (HE.out _ (List.getElem_mem hlt)).below hbl
      have hms := Hs.out _ (List.getElem_mem hlt)
      have hsa := all_succ (makF ro wi) hlt
      have hna := all_no (makF ro wi) hlt
      have hi0 : (0 : Int) <= (n : Int) := by omega
      have hi1 : (n : Int) < (l.length : Int) := by omega
      generalize hy : l[n] = y at c0 c1 c2 c3 c4 hat hms hsa hna
      have Hy := hidP hy
      clear hy
      obtain ⟨bb, hb⟩ : ∃ b, okB y.row y.who y.epoch y.last wi y.ms = b := ⟨_, rfl⟩
      have HC : Hid (∀ W : World, Below wr.heap.size wr W -> Calls Tryz.prog 136 #[.agg #[.int .i64 y.row, .int .i64 y.who, .int .i64 y.epoch, .int .i64 y.last, .slice y.A y.ms.length y.cap], .int .i64 wi] W fun e w' => e = .returned (.bool bb) /\ Below W.heap.size W w') := fun W g => hb ▸ specOk_is _ _ _ _ _ _ _ _ hms W (hat.below g)
      have hm : makF ro wi y = (bb && decide (y.row < ro)) := by rw [makF, hb]
      rw [hm] at hsa hna
      obtain ⟨s0, s1, s2, s3⟩ := P0.out.row4
      have qs := P0.out.lt
      clear hb hm hat
      cases bb
      . have hF : Hid ((l.all (makF ro wi) && ordTo l l.length) = false) := by show _ = _; rw [hna rfl]; rfl
        clear hsa hna
        go_wp2_with fail
        refine (HC.out _ (alloc0 (Below.refl _ _) _)).mono ?_
        rintro e w1 ⟨rfl, g1⟩
        have B1 : Below w.heap.size w w1 := via0 g1 (alloc0 hbl _)
        go_wp2
        go_ret
        exact ⟨by rw [hF.out]; rfl, B1⟩
      by_cases kr : ro <= y.row
      . have hF : Hid ((l.all (makF ro wi) && ordTo l l.length) = false) := by show _ = _; rw [hna (by simp; omega)]; rfl
        clear hsa hna
        go_wp2_with fail
        refine (HC.out _ (alloc0 (Below.refl _ _) _)).mono ?_
        rintro e w1 ⟨rfl, g1⟩
        have B1 : Below w.heap.size w w1 := via0 g1 (alloc0 hbl _)
        have p1 := (P0.out.alloc (.cells #[.int .i64 y.row, .int .i64 y.who, .int .i64 y.epoch, .int .i64 y.last, .slice y.A y.ms.length y.cap] 155)).below g1 (by simp; omega)
        have y1 := (Blk.new wr 155 #[.int .i64 y.row, .int .i64 y.who, .int .i64 y.epoch, .int .i64 y.last, .slice y.A y.ms.length y.cap]).below g1 (by simp)
        obtain ⟨t0, t1, t2, t3⟩ := p1.row4
        obtain ⟨e0, e1, e2, e3, e4⟩ := y1.row5
        have q1 := p1.lt
        have q2 := y1.lt
        go_wp2
        go_ret
        exact ⟨by rw [hF.out]; rfl, B1⟩
      . have hA1 : Hid ((l.take (n + 1)).all (makF ro wi) = true) := by show _ = _; rw [hsa, hal.out]; simp; omega
        clear hsa hna
        go_wp2_with fail
        refine (HC.out _ (alloc0 (Below.refl _ _) _)).mono ?_
        rintro e w1 ⟨rfl, g1⟩
        have B1 : Below w.heap.size w w1 := via0 g1 (alloc0 hbl _)
        have p1 := (P0.out.alloc (.cells #[.int .i64 y.row, .int .i64 y.who, .int .i64 y.epoch, .int .i64 y.last, .slice y.A y.ms.length y.cap] 155)).below g1 (by simp; omega)
        have y1 := (Blk.new wr 155 #[.int .i64 y.row, .int .i64 y.who, .int .i64 y.epoch, .int .i64 y.last, .slice y.A y.ms.length y.cap]).below g1 (by simp)
        have P1 := hidP p1
        obtain ⟨t0, t1, t2, t3⟩ := p1.row4
        obtain ⟨e0, e1, e2, e3, e4⟩ := y1.row5
        have q1 := p1.lt
        have q2 := y1.lt
        clear c0 c1 c2 c3 c4 s0 s1 s2 s3 p1 y1 g1 HC qs
        generalize wr.heap.size = mb at *
        by_cases hz : n = 0
        . have hO1 : Hid (ordTo l (n + 1) = true) := by show _ = _; rw [ordTo_succ, hO.out]; simp [ordAt, hz]
          have hd : Hid (decide (0 < n) = false) := decide_eq_false (by omega)
          clear hz
          go_wp2
          refine wp_region_noPanic ?_
          refine wp_region_held_drew (S := (fun w' => w'.cell? ⟨mb, 0, none⟩ = some (.int .i64 y.row) /\ w'.cell? ⟨mb, 1, none⟩ = some (.int .i64 y.who))) (by kernel_rfl) ?_ (fun hH => ?_)
          . (refine ⟨?_, ?_⟩<;>assumption)
          refine zt1 0 ?_; refine ztn (h := ?_); try simp only [zX,zY]
          refine zte ?_
          refine' wpAnyH_take (i := 1) (v := _) rfl (by kernel_rfl) (by kernel_rfl) (by kernel_rfl) (fun _ _ _ h => h) (Or.inl ⟨by rfl, ?hy12⟩) (by assumption) ?rest12
          case hy12 => (intro w hSw; (try dsimp only at hSw); go_simp<;>(rw [hd.out]<;>with_reducible rfl))
          try simp only [zX,zY]
          refine ztk [2,3,4,5,6,7,8,9,10,11,12,13,14,15,16,17,18,19,20,21,22,23,24,25,26,27,28,29,30,31,32,33,34] ?_; repeat ((first | refine ztn (h := ?_) | refine ztu (h := ?_)); try simp only [zX,zY])
          refine zte ?_
          refine zdn ?_
          go_wp2
          exact ⟨⟨n + 1, by go_num, by omega, hA1, hO1, P1.out.drew, B1.drew⟩, by simp [intOf]; omega⟩
        . obtain ⟨p, hpn⟩ : ∃ p, n = p + 1 := ⟨n - 1, by omega⟩
          have hpl : p < l.length := by omega
          obtain ⟨d0, d1, d2, d3, d4⟩ := (hIn.below hbs B1).getMC p hpl
          have hd : Hid (decide (0 < n) = true) := decide_eq_true (by omega)
          have j0 : (0 : Int) <= (p : Int) := by omega
          have j1 : (p : Int) < (l.length : Int) := by omega
          have jw : Hid (IntKind.i64.wrap ((n : Int) - 1) = (p : Int)) := by
            show IntKind.i64.wrap ((n : Int) - 1) = (p : Int)
            rw [IntKind.wrap_i64]; omega
          have hb2 : b < w1.heap.size := Nat.lt_of_lt_of_le hbs B1.size
          have hoa : ordAt l n = behB l[p] y := by rw [← Hy.out]; subst hpn; exact ordAt_is hlt
          have hsu : ordTo l (n + 1) = behB l[p] y := by rw [ordTo_succ, hO.out, hoa]; rfl
          have hno : behB l[p] y = false -> ordTo l l.length = false := fun h => ordTo_no hlt (hoa.trans h)
          clear hoa hpn hz
          generalize l[p] = z at d0 d1 d2 d3 d4 hsu hno
          by_cases k1 : y.row < z.row
          . have hF : Hid ((l.all (makF ro wi) && ordTo l l.length) = false) := by show _ = _; rw [hno (by simp [behB]; omega)]; simp
            have hg : Hid (decide (y.row < z.row) = true) := decide_eq_true k1
            clear hsu hno k1
            go_wp2
            refine wp_region_noPanic ?_
            refine wp_region_held_drew (S := (fun w' => w'.cell? ⟨mb, 0, none⟩ = some (.int .i64 y.row) /\ w'.cell? ⟨mb, 1, none⟩ = some (.int .i64 y.who) /\ w'.cell? ⟨b, o + p * 5, none⟩ = some (.int .i64 z.row) /\ w'.cell? ⟨b, o + p * 5 + 1, none⟩ = some (.int .i64 z.who))) (by kernel_rfl) ?_ (fun hH => ?_)
            . (refine ⟨?_, ?_, ?_, ?_⟩<;>assumption)
            refine zt1 0 ?_; refine ztn (h := ?_); try simp only [zX,zY]
            refine zte ?_
            refine' wpAnyH_take (i := 1) (v := _) rfl (by kernel_rfl) (by kernel_rfl) (by kernel_rfl) (fun _ _ _ h => h) (Or.inl ⟨by rfl, ?hy16⟩) (by assumption) ?rest16
            case hy16 => (intro w hSw; (try dsimp only at hSw); go_simp<;>(rw [hd.out]<;>with_reducible rfl))
            try simp only [zX,zY]
            refine ztk [2,3,4] ?_; repeat (refine ztn (h := ?_); try simp only [zX,zY])
            refine zte ?_
            refine' wpAnyH_take (i := 5) (v := _) rfl (by kernel_rfl) (by kernel_rfl) (by kernel_rfl) (fun _ _ _ h => h) (Or.inl ⟨by rfl, ?hy20⟩) (by assumption) ?rest20
            case hy20 => (intro w hSw; (try dsimp only at hSw); go_simp<;>(rw [jw.out]<;>with_reducible rfl))
            try simp only [zX,zY]
            refine ztk [6,7,8,9,10] ?_; repeat (refine ztn (h := ?_); try simp only [zX,zY])
            refine zte ?_
            refine' wpAnyH_take (i := 11) (v := _) rfl (by kernel_rfl) (by kernel_rfl) (by kernel_rfl) (fun _ _ _ h => h) (Or.inl ⟨by rfl, ?hy26⟩) (by assumption) ?rest26
            case hy26 => (intro w hSw; (try dsimp only at hSw); go_simp<;>(rw [hg.out]<;>with_reducible rfl))
            try simp only [zX,zY]
            refine ztk [12,13,14,15,16,17,18,19,20,21,22,23,24,25,26,27,28,29,30,31,32,33,34] ?_; repeat ((first | refine ztn (h := ?_) | refine ztu (h := ?_)); try simp only [zX,zY])
            refine zte ?_
            refine zdn ?_
            go_wp2
            go_ret
            exact ⟨by rw [hF.out]; rfl, B1.drew⟩
          . have hg : Hid (decide (y.row < z.row) = false) := decide_eq_false k1
            by_cases k2 : z.row = y.row
            . have he : Hid ((z.row == y.row) = true) := by show _ = _; simp [k2]
              by_cases k3 : y.who <= z.who
              . have hF : Hid ((l.all (makF ro wi) && ordTo l l.length) = false) := by show _ = _; rw [hno (by simp [behB]; omega)]; simp
                have hw : Hid (decide (y.who <= z.who) = true) := decide_eq_true k3
                clear hsu hno k1 k2 k3
                go_wp2
                refine wp_region_noPanic ?_
                refine wp_region_held_drew (S := (fun w' => w'.cell? ⟨mb, 0, none⟩ = some (.int .i64 y.row) /\ w'.cell? ⟨mb, 1, none⟩ = some (.int .i64 y.who) /\ w'.cell? ⟨b, o + p * 5, none⟩ = some (.int .i64 z.row) /\ w'.cell? ⟨b, o + p * 5 + 1, none⟩ = some (.int .i64 z.who))) (by kernel_rfl) ?_ (fun hH => ?_)
                . (refine ⟨?_, ?_, ?_, ?_⟩<;>assumption)
                refine zt1 0 ?_; refine ztn (h := ?_); try simp only [zX,zY]
                refine zte ?_
                refine' wpAnyH_take (i := 1) (v := _) rfl (by kernel_rfl) (by kernel_rfl) (by kernel_rfl) (fun _ _ _ h => h) (Or.inl ⟨by rfl, ?hy31⟩) (by assumption) ?rest31
                case hy31 => (intro w hSw; (try dsimp only at hSw); go_simp<;>(rw [hd.out]<;>with_reducible rfl))
                try simp only [zX,zY]
                refine ztk [2,3,4] ?_; repeat (refine ztn (h := ?_); try simp only [zX,zY])
                refine zte ?_
                refine' wpAnyH_take (i := 5) (v := _) rfl (by kernel_rfl) (by kernel_rfl) (by kernel_rfl) (fun _ _ _ h => h) (Or.inl ⟨by rfl, ?hy35⟩) (by assumption) ?rest35
                case hy35 => (intro w hSw; (try dsimp only at hSw); go_simp<;>(rw [jw.out]<;>with_reducible rfl))
                try simp only [zX,zY]
                refine ztk [6,7,8,9,10] ?_; repeat (refine ztn (h := ?_); try simp only [zX,zY])
                refine zte ?_
                refine' wpAnyH_take (i := 11) (v := _) rfl (by kernel_rfl) (by kernel_rfl) (by kernel_rfl) (fun _ _ _ h => h) (Or.inl ⟨by rfl, ?hy41⟩) (by assumption) ?rest41
                case hy41 => (intro w hSw; (try dsimp only at hSw); go_simp<;>(rw [hg.out]<;>with_reducible rfl))
                try simp only [zX,zY]
                refine ztk [12,13,14] ?_; repeat (refine ztn (h := ?_); try simp only [zX,zY])
                refine zte ?_
                refine' wpAnyH_take (i := 15) (v := _) rfl (by kernel_rfl) (by kernel_rfl) (by kernel_rfl) (fun _ _ _ h => h) (Or.inl ⟨by rfl, ?hy45⟩) (by assumption) ?rest45
                case hy45 => (intro w hSw; (try dsimp only at hSw); go_simp<;>(rw [jw.out]<;>with_reducible rfl))
                try simp only [zX,zY]
                refine ztk [16,17,18,19,20] ?_; repeat (refine ztn (h := ?_); try simp only [zX,zY])
                refine zte ?_
                refine' wpAnyH_take (i := 21) (v := _) rfl (by kernel_rfl) (by kernel_rfl) (by kernel_rfl) (fun _ _ _ h => h) (Or.inl ⟨by rfl, ?hy51⟩) (by assumption) ?rest51
                case hy51 => (intro w hSw; (try dsimp only at hSw); go_simp<;>(rw [he.out]<;>with_reducible rfl))
                try simp only [zX,zY]
                refine ztk [22,23,24] ?_; repeat (refine ztn (h := ?_); try simp only [zX,zY])
                refine zte ?_
                refine' wpAnyH_take (i := 25) (v := _) rfl (by kernel_rfl) (by kernel_rfl) (by kernel_rfl) (fun _ _ _ h => h) (Or.inl ⟨by rfl, ?hy55⟩) (by assumption) ?rest55
                case hy55 => (intro w hSw; (try dsimp only at hSw); go_simp<;>(rw [jw.out]<;>with_reducible rfl))
                try simp only [zX,zY]
                refine ztk [26,27,28,29,30] ?_; repeat (refine ztn (h := ?_); try simp only [zX,zY])
                refine zte ?_
                refine' wpAnyH_take (i := 31) (v := _) rfl (by kernel_rfl) (by kernel_rfl) (by kernel_rfl) (fun _ _ _ h => h) (Or.inl ⟨by rfl, ?hy61⟩) (by assumption) ?rest61
                case hy61 => (intro w hSw; (try dsimp only at hSw); go_simp<;>(rw [hw.out]<;>with_reducible rfl))
                try simp only [zX,zY]
                refine ztk [32,33,34] ?_; repeat (refine ztn (h := ?_); try simp only [zX,zY])
                refine zte ?_
                refine zdn ?_
                go_wp2
                go_ret
                exact ⟨by rw [hF.out]; rfl, B1.drew⟩
              . have hO1 : Hid (ordTo l (n + 1) = true) := by show _ = _; rw [hsu]; simp [behB, k2]; omega
                have hw : Hid (decide (y.who <= z.who) = false) := decide_eq_false k3
                clear hsu hno k1 k2 k3
                go_wp2
                refine wp_region_noPanic ?_
                refine wp_region_held_drew (S := (fun w' => w'.cell? ⟨mb, 0, none⟩ = some (.int .i64 y.row) /\ w'.cell? ⟨mb, 1, none⟩ = some (.int .i64 y.who) /\ w'.cell? ⟨b, o + p * 5, none⟩ = some (.int .i64 z.row) /\ w'.cell? ⟨b, o + p * 5 + 1, none⟩ = some (.int .i64 z.who))) (by kernel_rfl) ?_ (fun hH => ?_)
                . (refine ⟨?_, ?_, ?_, ?_⟩<;>assumption)
                refine zt1 0 ?_; refine ztn (h := ?_); try simp only [zX,zY]
                refine zte ?_
                refine' wpAnyH_take (i := 1) (v := _) rfl (by kernel_rfl) (by kernel_rfl) (by kernel_rfl) (fun _ _ _ h => h) (Or.inl ⟨by rfl, ?hy66⟩) (by assumption) ?rest66
                case hy66 => (intro w hSw; (try dsimp only at hSw); go_simp<;>(rw [hd.out]<;>with_reducible rfl))
                try simp only [zX,zY]
                refine ztk [2,3,4] ?_; repeat (refine ztn (h := ?_); try simp only [zX,zY])
                refine zte ?_
                refine' wpAnyH_take (i := 5) (v := _) rfl (by kernel_rfl) (by kernel_rfl) (by kernel_rfl) (fun _ _ _ h => h) (Or.inl ⟨by rfl, ?hy70⟩) (by assumption) ?rest70
                case hy70 => (intro w hSw; (try dsimp only at hSw); go_simp<;>(rw [jw.out]<;>with_reducible rfl))
                try simp only [zX,zY]
                refine ztk [6,7,8,9,10] ?_; repeat (refine ztn (h := ?_); try simp only [zX,zY])
                refine zte ?_
                refine' wpAnyH_take (i := 11) (v := _) rfl (by kernel_rfl) (by kernel_rfl) (by kernel_rfl) (fun _ _ _ h => h) (Or.inl ⟨by rfl, ?hy76⟩) (by assumption) ?rest76
                case hy76 => (intro w hSw; (try dsimp only at hSw); go_simp<;>(rw [hg.out]<;>with_reducible rfl))
                try simp only [zX,zY]
                refine ztk [12,13,14] ?_; repeat (refine ztn (h := ?_); try simp only [zX,zY])
                refine zte ?_
                refine' wpAnyH_take (i := 15) (v := _) rfl (by kernel_rfl) (by kernel_rfl) (by kernel_rfl) (fun _ _ _ h => h) (Or.inl ⟨by rfl, ?hy80⟩) (by assumption) ?rest80
                case hy80 => (intro w hSw; (try dsimp only at hSw); go_simp<;>(rw [jw.out]<;>with_reducible rfl))
                try simp only [zX,zY]
                refine ztk [16,17,18,19,20] ?_; repeat (refine ztn (h := ?_); try simp only [zX,zY])
                refine zte ?_
                refine' wpAnyH_take (i := 21) (v := _) rfl (by kernel_rfl) (by kernel_rfl) (by kernel_rfl) (fun _ _ _ h => h) (Or.inl ⟨by rfl, ?hy86⟩) (by assumption) ?rest86
                case hy86 => (intro w hSw; (try dsimp only at hSw); go_simp<;>(rw [he.out]<;>with_reducible rfl))
                try simp only [zX,zY]
                refine ztk [22,23,24] ?_; repeat (refine ztn (h := ?_); try simp only [zX,zY])
                refine zte ?_
                refine' wpAnyH_take (i := 25) (v := _) rfl (by kernel_rfl) (by kernel_rfl) (by kernel_rfl) (fun _ _ _ h => h) (Or.inl ⟨by rfl, ?hy90⟩) (by assumption) ?rest90
                case hy90 => (intro w hSw; (try dsimp only at hSw); go_simp<;>(rw [jw.out]<;>with_reducible rfl))
                try simp only [zX,zY]
                refine ztk [26,27,28,29,30] ?_; repeat (refine ztn (h := ?_); try simp only [zX,zY])
                refine zte ?_
                refine' wpAnyH_take (i := 31) (v := _) rfl (by kernel_rfl) (by kernel_rfl) (by kernel_rfl) (fun _ _ _ h => h) (Or.inl ⟨by rfl, ?hy96⟩) (by assumption) ?rest96
                case hy96 => (intro w hSw; (try dsimp only at hSw); go_simp<;>(rw [hw.out]<;>with_reducible rfl))
                try simp only [zX,zY]
                refine ztk [32,33,34] ?_; repeat (refine ztn (h := ?_); try simp only [zX,zY])
                refine zte ?_
                refine zdn ?_
                go_wp2
                exact ⟨⟨n + 1, by go_num, by omega, hA1, hO1, P1.out.drew, B1.drew⟩, by simp [intOf]; omega⟩
            . have he : Hid ((z.row == y.row) = false) := by show _ = _; simp [k2]
              have hO1 : Hid (ordTo l (n + 1) = true) := by show _ = _; rw [hsu]; simp [behB]; omega
              clear hsu hno k1 k2
              go_wp2
              refine wp_region_noPanic ?_
              refine wp_region_held_drew (S := (fun w' => w'.cell? ⟨mb, 0, none⟩ = some (.int .i64 y.row) /\ w'.cell? ⟨mb, 1, none⟩ = some (.int .i64 y.who) /\ w'.cell? ⟨b, o + p * 5, none⟩ = some (.int .i64 z.row) /\ w'.cell? ⟨b, o + p * 5 + 1, none⟩ = some (.int .i64 z.who))) (by kernel_rfl) ?_ (fun hH => ?_)
              . (refine ⟨?_, ?_, ?_, ?_⟩<;>assumption)
              refine zt1 0 ?_; refine ztn (h := ?_); try simp only [zX,zY]
              refine zte ?_
              refine' wpAnyH_take (i := 1) (v := _) rfl (by kernel_rfl) (by kernel_rfl) (by kernel_rfl) (fun _ _ _ h => h) (Or.inl ⟨by rfl, ?hy101⟩) (by assumption) ?rest101
              case hy101 => (intro w hSw; (try dsimp only at hSw); go_simp<;>(rw [hd.out]<;>with_reducible rfl))
              try simp only [zX,zY]
              refine ztk [2,3,4] ?_; repeat (refine ztn (h := ?_); try simp only [zX,zY])
              refine zte ?_
              refine' wpAnyH_take (i := 5) (v := _) rfl (by kernel_rfl) (by kernel_rfl) (by kernel_rfl) (fun _ _ _ h => h) (Or.inl ⟨by rfl, ?hy105⟩) (by assumption) ?rest105
              case hy105 => (intro w hSw; (try dsimp only at hSw); go_simp<;>(rw [jw.out]<;>with_reducible rfl))
              try simp only [zX,zY]
              refine ztk [6,7,8,9,10] ?_; repeat (refine ztn (h := ?_); try simp only [zX,zY])
              refine zte ?_
              refine' wpAnyH_take (i := 11) (v := _) rfl (by kernel_rfl) (by kernel_rfl) (by kernel_rfl) (fun _ _ _ h => h) (Or.inl ⟨by rfl, ?hy111⟩) (by assumption) ?rest111
              case hy111 => (intro w hSw; (try dsimp only at hSw); go_simp<;>(rw [hg.out]<;>with_reducible rfl))
              try simp only [zX,zY]
              refine ztk [12,13,14] ?_; repeat (refine ztn (h := ?_); try simp only [zX,zY])
              refine zte ?_
              refine' wpAnyH_take (i := 15) (v := _) rfl (by kernel_rfl) (by kernel_rfl) (by kernel_rfl) (fun _ _ _ h => h) (Or.inl ⟨by rfl, ?hy115⟩) (by assumption) ?rest115
              case hy115 => (intro w hSw; (try dsimp only at hSw); go_simp<;>(rw [jw.out]<;>with_reducible rfl))
              try simp only [zX,zY]
              refine ztk [16,17,18,19,20] ?_; repeat (refine ztn (h := ?_); try simp only [zX,zY])
              refine zte ?_
              refine' wpAnyH_take (i := 21) (v := _) rfl (by kernel_rfl) (by kernel_rfl) (by kernel_rfl) (fun _ _ _ h => h) (Or.inl ⟨by rfl, ?hy121⟩) (by assumption) ?rest121
              case hy121 => (intro w hSw; (try dsimp only at hSw); go_simp<;>(rw [he.out]<;>with_reducible rfl))
              try simp only [zX,zY]
              refine ztk [22,23,24,25,26,27,28,29,30,31,32,33,34] ?_; repeat ((first | refine ztn (h := ?_) | refine ztu (h := ?_)); try simp only [zX,zY])
              refine zte ?_
              refine zdn ?_
              go_wp2
              exact ⟨⟨n + 1, by go_num, by omega, hA1, hO1, P1.out.drew, B1.drew⟩, by simp [intOf]; omega⟩
    . have e : l.take n = l := List.take_of_length_le (by omega)
      have e2 : n = l.length := by omega
      have hF : Hid ((l.all (makF ro wi) && ordTo l l.length) = true) := by
        show _ = _
        have h1 := hal.out
        have h2 := hO.out
        rw [e] at h1
        rw [e2] at h2
        rw [h1, h2]; rfl
      clear e e2
      go_wp2
      go_ret
      exact ⟨by rw [hF.out]; rfl, hbl⟩
end Go.Proofs.YtaefjifcnoiplaaGreat.Gen

/-
  The specification's KeepOk at this seat: it answers as the program's. No condition but that its lists have at most 1048576 records in all.
-/
namespace Go.Proofs.YtaefjifcnoiplaaGreat.Gen
open Go.ChangeShapes Go.WideShapes Go.ChangeAt Go.RowKit Go.Joins Go.Deep Base
set_option linter.unusedVariables false
set_option linter.unusedSimpArgs false
theorem keepB_eq (ro wi le ke : Int) (x : KC) : keepB ro wi le ke x = (setB ro wi le ke && decide ((x.rs.length : Int) = ro) && decide ((x.gs.length : Int) = 2) && decide ((x.ds.length : Int) = 4) && decide ((x.ls.length : Int) = 4) && inB x.time 0 100000 && (x.ms.all (makF ro wi) && ordTo x.ms x.ms.length) && x.rs.all rowF && x.gs.all (grpF ro) && (numTo x.ds x.ds.length && x.ls.all ansF)) := by
  unfold keepB
  ac_rfl
set_option maxRecDepth 100000 in
set_option maxHeartbeats 6400000 in
theorem specKeepOk_any (ro wi le ke : Int) (x : KC) (ha : KAsk x) (w : World) (hx : KAt w x) :
    Calls Tryz.prog 36 #[.agg #[.int .i64 ro, .int .i64 wi, .int .i64 le, .int .i64 ke], .agg #[.slice x.rA x.rs.length x.rc, .slice x.mA x.ms.length x.mc, .slice x.gA x.gs.length x.gc, .int .i64 x.time, .slice x.dA x.ds.length x.dc, .slice x.lA x.ls.length x.lc]] w fun e w' => e = .returned (.bool (keepB ro wi le ke x)) /\ Below w.heap.size w w' := by
  obtain ⟨b1, h1⟩ : ∃ b, setB ro wi le ke = b := ⟨_, rfl⟩
  obtain ⟨b2, h2⟩ : ∃ b, decide ((x.rs.length : Int) = ro) = b := ⟨_, rfl⟩
  obtain ⟨b6, h6⟩ : ∃ b, decide ((x.gs.length : Int) = 2) = b := ⟨_, rfl⟩
  obtain ⟨b8, h8⟩ : ∃ b, inB x.time 0 100000 = b := ⟨_, rfl⟩
  obtain ⟨b9, h9⟩ : ∃ b, decide ((x.ds.length : Int) = 4) = b := ⟨_, rfl⟩
  obtain ⟨b11, h11⟩ : ∃ b, decide ((x.ls.length : Int) = 4) = b := ⟨_, rfl⟩
  obtain ⟨b13, h13⟩ : ∃ b, (x.ms.all (makF ro wi) && ordTo x.ms x.ms.length) = b := ⟨_, rfl⟩
  have hF : Hid (keepB ro wi le ke x = (b1 && b2 && b6 && b9 && b11 && b8 && b13 && x.rs.all rowF && x.gs.all (grpF ro) && (numTo x.ds x.ds.length && x.ls.all ansF))) := by
    show _ = _
    rw [keepB_eq, h1, h2, h6, h8, h9, h11, h13]
  have q2 : ((x.rs.length : Int) != ro) = !b2 := by rw [← h2]; rfl
  have q6 : ((x.gs.length : Int) != 2) = !b6 := by rw [← h6]; rfl
  have q9 : ((x.ds.length : Int) != 4) = !b9 := by rw [← h9]; rfl
  have q11 : ((x.ls.length : Int) != 4) = !b11 := by rw [← h11]; rfl
  have f := ha.fit
  have E1 : Hid (∀ W : World, Calls Tryz.prog 77 #[.agg #[.int .i64 ro, .int .i64 wi, .int .i64 le, .int .i64 ke]] W fun e w' => e = .returned (.bool b1) /\ Below W.heap.size W w') := fun W => h1 ▸ specSetup_any ro wi le ke W
  have E8 : Hid (∀ W : World, Calls Tryz.prog 34 #[.int .i64 x.time, .int .i64 0, .int .i64 100000] W fun e w' => e = .returned (.bool b8) /\ w' = W) := fun W => h8 ▸ in_any _ _ _ W
  have E13 : Hid (∀ W : World, Below w.heap.size w W -> Calls Tryz.prog 78 #[.agg #[.int .i64 ro, .int .i64 wi, .int .i64 le, .int .i64 ke], .slice x.mA x.ms.length x.mc] W fun e w' => e = .returned (.bool b13) /\ Below W.heap.size W w') := fun W g => h13 ▸ specMakers_any ro wi le ke _ _ x.ms f.ml f.mi W (hx.below g).ma (hx.below g).me
  have HX := hidP hx
  have Ha := hidP ha
  have H2 := hidP h2
  have H6 := hidP h6
  have H9 := hidP h9
  have H11 := hidP h11
  clear h1 h2 h6 h8 h9 h11 h13 f hx ha
  cases b1
  case false =>
    have hF : Hid (keepB ro wi le ke x = false) := by show _ = _; rw [hF.out]; simp
    go_enter Tryz.func36, Tryz.ntmps36
    have B : Below w.heap.size w ((w.alloc (.cells #[.int .i64 ro, .int .i64 wi, .int .i64 le, .int .i64 ke] 39)).alloc (.cells #[.slice x.rA x.rs.length x.rc, .slice x.mA x.ms.length x.mc, .slice x.gA x.gs.length x.gc, .int .i64 x.time, .slice x.dA x.ds.length x.dc, .slice x.lA x.ls.length x.lc] 49)) := alloc0 (alloc0 (Below.refl _ _) _) _
    have P : Blk ((w.alloc (.cells #[.int .i64 ro, .int .i64 wi, .int .i64 le, .int .i64 ke] 39)).alloc (.cells #[.slice x.rA x.rs.length x.rc, .slice x.mA x.ms.length x.mc, .slice x.gA x.gs.length x.gc, .int .i64 x.time, .slice x.dA x.ds.length x.dc, .slice x.lA x.ls.length x.lc] 49)) w.heap.size 39 #[.int .i64 ro, .int .i64 wi, .int .i64 le, .int .i64 ke] := (Blk.new w _ _).alloc _
    have R : Blk ((w.alloc (.cells #[.int .i64 ro, .int .i64 wi, .int .i64 le, .int .i64 ke] 39)).alloc (.cells #[.slice x.rA x.rs.length x.rc, .slice x.mA x.ms.length x.mc, .slice x.gA x.gs.length x.gc, .int .i64 x.time, .slice x.dA x.ds.length x.dc, .slice x.lA x.ls.length x.lc] 49)) (w.heap.size + 1) 49 #[.slice x.rA x.rs.length x.rc, .slice x.mA x.ms.length x.mc, .slice x.gA x.gs.length x.gc, .int .i64 x.time, .slice x.dA x.ds.length x.dc, .slice x.lA x.ls.length x.lc] := by have := Blk.new (w.alloc (.cells #[.int .i64 ro, .int .i64 wi, .int .i64 le, .int .i64 ke] 39)) 49 #[.slice x.rA x.rs.length x.rc, .slice x.mA x.ms.length x.mc, .slice x.gA x.gs.length x.gc, .int .i64 x.time, .slice x.dA x.ds.length x.dc, .slice x.lA x.ls.length x.lc]; rwa [World.size_alloc] at this
    go_wp2_with fail
    refine (E1.out _).mono ?_
    rintro e w1 ⟨rfl, g⟩
    replace B := via0 g B
    replace P := P.below g P.lt
    replace R := R.below g R.lt
    clear g
    obtain ⟨u0, u1, u2, u3⟩ := P.row4
    obtain ⟨v0, v1, v2, v3, v4, v5⟩ := R.row6
    have q1 := P.lt
    have q2 := R.lt
    go_wp2
    go_ret
    exact ⟨by rw [hF.out]; rfl, B⟩
  cases b2
  case false =>
    have hF : Hid (keepB ro wi le ke x = false) := by show _ = _; rw [hF.out]; simp
    go_enter Tryz.func36, Tryz.ntmps36
    have B : Below w.heap.size w ((w.alloc (.cells #[.int .i64 ro, .int .i64 wi, .int .i64 le, .int .i64 ke] 39)).alloc (.cells #[.slice x.rA x.rs.length x.rc, .slice x.mA x.ms.length x.mc, .slice x.gA x.gs.length x.gc, .int .i64 x.time, .slice x.dA x.ds.length x.dc, .slice x.lA x.ls.length x.lc] 49)) := alloc0 (alloc0 (Below.refl _ _) _) _
    have P : Blk ((w.alloc (.cells #[.int .i64 ro, .int .i64 wi, .int .i64 le, .int .i64 ke] 39)).alloc (.cells #[.slice x.rA x.rs.length x.rc, .slice x.mA x.ms.length x.mc, .slice x.gA x.gs.length x.gc, .int .i64 x.time, .slice x.dA x.ds.length x.dc, .slice x.lA x.ls.length x.lc] 49)) w.heap.size 39 #[.int .i64 ro, .int .i64 wi, .int .i64 le, .int .i64 ke] := (Blk.new w _ _).alloc _
    have R : Blk ((w.alloc (.cells #[.int .i64 ro, .int .i64 wi, .int .i64 le, .int .i64 ke] 39)).alloc (.cells #[.slice x.rA x.rs.length x.rc, .slice x.mA x.ms.length x.mc, .slice x.gA x.gs.length x.gc, .int .i64 x.time, .slice x.dA x.ds.length x.dc, .slice x.lA x.ls.length x.lc] 49)) (w.heap.size + 1) 49 #[.slice x.rA x.rs.length x.rc, .slice x.mA x.ms.length x.mc, .slice x.gA x.gs.length x.gc, .int .i64 x.time, .slice x.dA x.ds.length x.dc, .slice x.lA x.ls.length x.lc] := by have := Blk.new (w.alloc (.cells #[.int .i64 ro, .int .i64 wi, .int .i64 le, .int .i64 ke] 39)) 49 #[.slice x.rA x.rs.length x.rc, .slice x.mA x.ms.length x.mc, .slice x.gA x.gs.length x.gc, .int .i64 x.time, .slice x.dA x.ds.length x.dc, .slice x.lA x.ls.length x.lc]; rwa [World.size_alloc] at this
    go_wp2_with fail
    refine (E1.out _).mono ?_
    rintro e w1 ⟨rfl, g⟩
    replace B := via0 g B
    replace P := P.below g P.lt
    replace R := R.below g R.lt
    clear g
    obtain ⟨u0, u1, u2, u3⟩ := P.row4
    obtain ⟨v0, v1, v2, v3, v4, v5⟩ := R.row6
    have q1 := P.lt
    have q2 := R.lt
    go_wp2
    go_ret
    exact ⟨by rw [hF.out]; rfl, B⟩
  cases b6
  case false =>
    have hF : Hid (keepB ro wi le ke x = false) := by show _ = _; rw [hF.out]; simp
    go_enter Tryz.func36, Tryz.ntmps36
    have B : Below w.heap.size w ((w.alloc (.cells #[.int .i64 ro, .int .i64 wi, .int .i64 le, .int .i64 ke] 39)).alloc (.cells #[.slice x.rA x.rs.length x.rc, .slice x.mA x.ms.length x.mc, .slice x.gA x.gs.length x.gc, .int .i64 x.time, .slice x.dA x.ds.length x.dc, .slice x.lA x.ls.length x.lc] 49)) := alloc0 (alloc0 (Below.refl _ _) _) _
    have P : Blk ((w.alloc (.cells #[.int .i64 ro, .int .i64 wi, .int .i64 le, .int .i64 ke] 39)).alloc (.cells #[.slice x.rA x.rs.length x.rc, .slice x.mA x.ms.length x.mc, .slice x.gA x.gs.length x.gc, .int .i64 x.time, .slice x.dA x.ds.length x.dc, .slice x.lA x.ls.length x.lc] 49)) w.heap.size 39 #[.int .i64 ro, .int .i64 wi, .int .i64 le, .int .i64 ke] := (Blk.new w _ _).alloc _
    have R : Blk ((w.alloc (.cells #[.int .i64 ro, .int .i64 wi, .int .i64 le, .int .i64 ke] 39)).alloc (.cells #[.slice x.rA x.rs.length x.rc, .slice x.mA x.ms.length x.mc, .slice x.gA x.gs.length x.gc, .int .i64 x.time, .slice x.dA x.ds.length x.dc, .slice x.lA x.ls.length x.lc] 49)) (w.heap.size + 1) 49 #[.slice x.rA x.rs.length x.rc, .slice x.mA x.ms.length x.mc, .slice x.gA x.gs.length x.gc, .int .i64 x.time, .slice x.dA x.ds.length x.dc, .slice x.lA x.ls.length x.lc] := by have := Blk.new (w.alloc (.cells #[.int .i64 ro, .int .i64 wi, .int .i64 le, .int .i64 ke] 39)) 49 #[.slice x.rA x.rs.length x.rc, .slice x.mA x.ms.length x.mc, .slice x.gA x.gs.length x.gc, .int .i64 x.time, .slice x.dA x.ds.length x.dc, .slice x.lA x.ls.length x.lc]; rwa [World.size_alloc] at this
    go_wp2_with fail
    refine (E1.out _).mono ?_
    rintro e w1 ⟨rfl, g⟩
    replace B := via0 g B
    replace P := P.below g P.lt
    replace R := R.below g R.lt
    clear g
    obtain ⟨u0, u1, u2, u3⟩ := P.row4
    obtain ⟨v0, v1, v2, v3, v4, v5⟩ := R.row6
    have q1 := P.lt
    have q2 := R.lt
    go_wp2
    go_ret
    exact ⟨by rw [hF.out]; rfl, B⟩
  cases b9
  case false =>
    have hF : Hid (keepB ro wi le ke x = false) := by show _ = _; rw [hF.out]; simp
    go_enter Tryz.func36, Tryz.ntmps36
    have B : Below w.heap.size w ((w.alloc (.cells #[.int .i64 ro, .int .i64 wi, .int .i64 le, .int .i64 ke] 39)).alloc (.cells #[.slice x.rA x.rs.length x.rc, .slice x.mA x.ms.length x.mc, .slice x.gA x.gs.length x.gc, .int .i64 x.time, .slice x.dA x.ds.length x.dc, .slice x.lA x.ls.length x.lc] 49)) := alloc0 (alloc0 (Below.refl _ _) _) _
    have P : Blk ((w.alloc (.cells #[.int .i64 ro, .int .i64 wi, .int .i64 le, .int .i64 ke] 39)).alloc (.cells #[.slice x.rA x.rs.length x.rc, .slice x.mA x.ms.length x.mc, .slice x.gA x.gs.length x.gc, .int .i64 x.time, .slice x.dA x.ds.length x.dc, .slice x.lA x.ls.length x.lc] 49)) w.heap.size 39 #[.int .i64 ro, .int .i64 wi, .int .i64 le, .int .i64 ke] := (Blk.new w _ _).alloc _
    have R : Blk ((w.alloc (.cells #[.int .i64 ro, .int .i64 wi, .int .i64 le, .int .i64 ke] 39)).alloc (.cells #[.slice x.rA x.rs.length x.rc, .slice x.mA x.ms.length x.mc, .slice x.gA x.gs.length x.gc, .int .i64 x.time, .slice x.dA x.ds.length x.dc, .slice x.lA x.ls.length x.lc] 49)) (w.heap.size + 1) 49 #[.slice x.rA x.rs.length x.rc, .slice x.mA x.ms.length x.mc, .slice x.gA x.gs.length x.gc, .int .i64 x.time, .slice x.dA x.ds.length x.dc, .slice x.lA x.ls.length x.lc] := by have := Blk.new (w.alloc (.cells #[.int .i64 ro, .int .i64 wi, .int .i64 le, .int .i64 ke] 39)) 49 #[.slice x.rA x.rs.length x.rc, .slice x.mA x.ms.length x.mc, .slice x.gA x.gs.length x.gc, .int .i64 x.time, .slice x.dA x.ds.length x.dc, .slice x.lA x.ls.length x.lc]; rwa [World.size_alloc] at this
    go_wp2_with fail
    refine (E1.out _).mono ?_
    rintro e w1 ⟨rfl, g⟩
    replace B := via0 g B
    replace P := P.below g P.lt
    replace R := R.below g R.lt
    clear g
    obtain ⟨u0, u1, u2, u3⟩ := P.row4
    obtain ⟨v0, v1, v2, v3, v4, v5⟩ := R.row6
    have q1 := P.lt
    have q2 := R.lt
    go_wp2
    go_ret
    exact ⟨by rw [hF.out]; rfl, B⟩
  cases b11
  case false =>
    have hF : Hid (keepB ro wi le ke x = false) := by show _ = _; rw [hF.out]; simp
    go_enter Tryz.func36, Tryz.ntmps36
    have B : Below w.heap.size w ((w.alloc (.cells #[.int .i64 ro, .int .i64 wi, .int .i64 le, .int .i64 ke] 39)).alloc (.cells #[.slice x.rA x.rs.length x.rc, .slice x.mA x.ms.length x.mc, .slice x.gA x.gs.length x.gc, .int .i64 x.time, .slice x.dA x.ds.length x.dc, .slice x.lA x.ls.length x.lc] 49)) := alloc0 (alloc0 (Below.refl _ _) _) _
    have P : Blk ((w.alloc (.cells #[.int .i64 ro, .int .i64 wi, .int .i64 le, .int .i64 ke] 39)).alloc (.cells #[.slice x.rA x.rs.length x.rc, .slice x.mA x.ms.length x.mc, .slice x.gA x.gs.length x.gc, .int .i64 x.time, .slice x.dA x.ds.length x.dc, .slice x.lA x.ls.length x.lc] 49)) w.heap.size 39 #[.int .i64 ro, .int .i64 wi, .int .i64 le, .int .i64 ke] := (Blk.new w _ _).alloc _
    have R : Blk ((w.alloc (.cells #[.int .i64 ro, .int .i64 wi, .int .i64 le, .int .i64 ke] 39)).alloc (.cells #[.slice x.rA x.rs.length x.rc, .slice x.mA x.ms.length x.mc, .slice x.gA x.gs.length x.gc, .int .i64 x.time, .slice x.dA x.ds.length x.dc, .slice x.lA x.ls.length x.lc] 49)) (w.heap.size + 1) 49 #[.slice x.rA x.rs.length x.rc, .slice x.mA x.ms.length x.mc, .slice x.gA x.gs.length x.gc, .int .i64 x.time, .slice x.dA x.ds.length x.dc, .slice x.lA x.ls.length x.lc] := by have := Blk.new (w.alloc (.cells #[.int .i64 ro, .int .i64 wi, .int .i64 le, .int .i64 ke] 39)) 49 #[.slice x.rA x.rs.length x.rc, .slice x.mA x.ms.length x.mc, .slice x.gA x.gs.length x.gc, .int .i64 x.time, .slice x.dA x.ds.length x.dc, .slice x.lA x.ls.length x.lc]; rwa [World.size_alloc] at this
    go_wp2_with fail
    refine (E1.out _).mono ?_
    rintro e w1 ⟨rfl, g⟩
    replace B := via0 g B
    replace P := P.below g P.lt
    replace R := R.below g R.lt
    clear g
    obtain ⟨u0, u1, u2, u3⟩ := P.row4
    obtain ⟨v0, v1, v2, v3, v4, v5⟩ := R.row6
    have q1 := P.lt
    have q2 := R.lt
    go_wp2
    go_ret
    exact ⟨by rw [hF.out]; rfl, B⟩
  cases b8
  case false =>
    have hF : Hid (keepB ro wi le ke x = false) := by show _ = _; rw [hF.out]; simp
    go_enter Tryz.func36, Tryz.ntmps36
    have B : Below w.heap.size w ((w.alloc (.cells #[.int .i64 ro, .int .i64 wi, .int .i64 le, .int .i64 ke] 39)).alloc (.cells #[.slice x.rA x.rs.length x.rc, .slice x.mA x.ms.length x.mc, .slice x.gA x.gs.length x.gc, .int .i64 x.time, .slice x.dA x.ds.length x.dc, .slice x.lA x.ls.length x.lc] 49)) := alloc0 (alloc0 (Below.refl _ _) _) _
    have P : Blk ((w.alloc (.cells #[.int .i64 ro, .int .i64 wi, .int .i64 le, .int .i64 ke] 39)).alloc (.cells #[.slice x.rA x.rs.length x.rc, .slice x.mA x.ms.length x.mc, .slice x.gA x.gs.length x.gc, .int .i64 x.time, .slice x.dA x.ds.length x.dc, .slice x.lA x.ls.length x.lc] 49)) w.heap.size 39 #[.int .i64 ro, .int .i64 wi, .int .i64 le, .int .i64 ke] := (Blk.new w _ _).alloc _
    have R : Blk ((w.alloc (.cells #[.int .i64 ro, .int .i64 wi, .int .i64 le, .int .i64 ke] 39)).alloc (.cells #[.slice x.rA x.rs.length x.rc, .slice x.mA x.ms.length x.mc, .slice x.gA x.gs.length x.gc, .int .i64 x.time, .slice x.dA x.ds.length x.dc, .slice x.lA x.ls.length x.lc] 49)) (w.heap.size + 1) 49 #[.slice x.rA x.rs.length x.rc, .slice x.mA x.ms.length x.mc, .slice x.gA x.gs.length x.gc, .int .i64 x.time, .slice x.dA x.ds.length x.dc, .slice x.lA x.ls.length x.lc] := by have := Blk.new (w.alloc (.cells #[.int .i64 ro, .int .i64 wi, .int .i64 le, .int .i64 ke] 39)) 49 #[.slice x.rA x.rs.length x.rc, .slice x.mA x.ms.length x.mc, .slice x.gA x.gs.length x.gc, .int .i64 x.time, .slice x.dA x.ds.length x.dc, .slice x.lA x.ls.length x.lc]; rwa [World.size_alloc] at this
    go_wp2_with fail
    refine (E1.out _).mono ?_
    rintro e w1 ⟨rfl, g⟩
    replace B := via0 g B
    replace P := P.below g P.lt
    replace R := R.below g R.lt
    clear g
    obtain ⟨u0, u1, u2, u3⟩ := P.row4
    obtain ⟨v0, v1, v2, v3, v4, v5⟩ := R.row6
    have q1 := P.lt
    have q2 := R.lt
    go_wp2_with fail
    refine (E8.out _).mono ?_
    rintro e w8 ⟨rfl, rfl⟩
    go_wp2
    go_ret
    exact ⟨by rw [hF.out]; rfl, B⟩
  cases b13
  case false =>
    have hF : Hid (keepB ro wi le ke x = false) := by show _ = _; rw [hF.out]; simp
    go_enter Tryz.func36, Tryz.ntmps36
    have B : Below w.heap.size w ((w.alloc (.cells #[.int .i64 ro, .int .i64 wi, .int .i64 le, .int .i64 ke] 39)).alloc (.cells #[.slice x.rA x.rs.length x.rc, .slice x.mA x.ms.length x.mc, .slice x.gA x.gs.length x.gc, .int .i64 x.time, .slice x.dA x.ds.length x.dc, .slice x.lA x.ls.length x.lc] 49)) := alloc0 (alloc0 (Below.refl _ _) _) _
    have P : Blk ((w.alloc (.cells #[.int .i64 ro, .int .i64 wi, .int .i64 le, .int .i64 ke] 39)).alloc (.cells #[.slice x.rA x.rs.length x.rc, .slice x.mA x.ms.length x.mc, .slice x.gA x.gs.length x.gc, .int .i64 x.time, .slice x.dA x.ds.length x.dc, .slice x.lA x.ls.length x.lc] 49)) w.heap.size 39 #[.int .i64 ro, .int .i64 wi, .int .i64 le, .int .i64 ke] := (Blk.new w _ _).alloc _
    have R : Blk ((w.alloc (.cells #[.int .i64 ro, .int .i64 wi, .int .i64 le, .int .i64 ke] 39)).alloc (.cells #[.slice x.rA x.rs.length x.rc, .slice x.mA x.ms.length x.mc, .slice x.gA x.gs.length x.gc, .int .i64 x.time, .slice x.dA x.ds.length x.dc, .slice x.lA x.ls.length x.lc] 49)) (w.heap.size + 1) 49 #[.slice x.rA x.rs.length x.rc, .slice x.mA x.ms.length x.mc, .slice x.gA x.gs.length x.gc, .int .i64 x.time, .slice x.dA x.ds.length x.dc, .slice x.lA x.ls.length x.lc] := by have := Blk.new (w.alloc (.cells #[.int .i64 ro, .int .i64 wi, .int .i64 le, .int .i64 ke] 39)) 49 #[.slice x.rA x.rs.length x.rc, .slice x.mA x.ms.length x.mc, .slice x.gA x.gs.length x.gc, .int .i64 x.time, .slice x.dA x.ds.length x.dc, .slice x.lA x.ls.length x.lc]; rwa [World.size_alloc] at this
    go_wp2_with fail
    refine (E1.out _).mono ?_
    rintro e w1 ⟨rfl, g⟩
    replace B := via0 g B
    replace P := P.below g P.lt
    replace R := R.below g R.lt
    clear g
    obtain ⟨u0, u1, u2, u3⟩ := P.row4
    obtain ⟨v0, v1, v2, v3, v4, v5⟩ := R.row6
    have q1 := P.lt
    have q2 := R.lt
    go_wp2_with fail
    refine (E8.out _).mono ?_
    rintro e w8 ⟨rfl, rfl⟩
    go_wp2_with fail
    refine (E13.out _ B).mono ?_
    rintro e w13 ⟨rfl, g⟩
    replace B := via0 g B
    replace P := P.below g P.lt
    replace R := R.below g R.lt
    clear g u0 u1 u2 u3 v0 v1 v2 v3 v4 v5 q1 q2
    obtain ⟨u0, u1, u2, u3⟩ := P.row4
    obtain ⟨v0, v1, v2, v3, v4, v5⟩ := R.row6
    have q1 := P.lt
    have q2 := R.lt
    go_wp2
    go_ret
    exact ⟨by rw [hF.out]; rfl, B⟩
  obtain ⟨nr, hnr⟩ : ∃ m, x.rs.length = m := ⟨_, rfl⟩
  have hro : ro = (nr : Int) := by have := of_decide_eq_true H2.out; omega
  have hg2 : Hid (x.gs.length = 2) := by have := of_decide_eq_true H6.out; show _ = _; omega
  have hd4 : Hid (x.ds.length = 4) := by have := of_decide_eq_true H9.out; show _ = _; omega
  have hl4 : Hid (x.ls.length = 4) := by have := of_decide_eq_true H11.out; show _ = _; omega
  have hFl : Hid (keepB ro wi le ke x = (x.rs.all rowF && x.gs.all (grpF ro) && (numTo x.ds x.ds.length && x.ls.all ansF))) := by show _ = _; rw [hF.out]; simp
  have Hnr := hidP hnr
  have hnb : nr <= 1048576 := by have := Ha.out.fit.rl; omega
  subst hro
  clear hF hnr H2 H6 H9 H11
  go_enter Tryz.func36, Tryz.ntmps36
  have B : Below w.heap.size w ((w.alloc (.cells #[.int .i64 (nr : Int), .int .i64 wi, .int .i64 le, .int .i64 ke] 39)).alloc (.cells #[.slice x.rA x.rs.length x.rc, .slice x.mA x.ms.length x.mc, .slice x.gA x.gs.length x.gc, .int .i64 x.time, .slice x.dA x.ds.length x.dc, .slice x.lA x.ls.length x.lc] 49)) := alloc0 (alloc0 (Below.refl _ _) _) _
  have P : Blk ((w.alloc (.cells #[.int .i64 (nr : Int), .int .i64 wi, .int .i64 le, .int .i64 ke] 39)).alloc (.cells #[.slice x.rA x.rs.length x.rc, .slice x.mA x.ms.length x.mc, .slice x.gA x.gs.length x.gc, .int .i64 x.time, .slice x.dA x.ds.length x.dc, .slice x.lA x.ls.length x.lc] 49)) w.heap.size 39 #[.int .i64 (nr : Int), .int .i64 wi, .int .i64 le, .int .i64 ke] := (Blk.new w _ _).alloc _
  have R : Blk ((w.alloc (.cells #[.int .i64 (nr : Int), .int .i64 wi, .int .i64 le, .int .i64 ke] 39)).alloc (.cells #[.slice x.rA x.rs.length x.rc, .slice x.mA x.ms.length x.mc, .slice x.gA x.gs.length x.gc, .int .i64 x.time, .slice x.dA x.ds.length x.dc, .slice x.lA x.ls.length x.lc] 49)) (w.heap.size + 1) 49 #[.slice x.rA x.rs.length x.rc, .slice x.mA x.ms.length x.mc, .slice x.gA x.gs.length x.gc, .int .i64 x.time, .slice x.dA x.ds.length x.dc, .slice x.lA x.ls.length x.lc] := by have := Blk.new (w.alloc (.cells #[.int .i64 (nr : Int), .int .i64 wi, .int .i64 le, .int .i64 ke] 39)) 49 #[.slice x.rA x.rs.length x.rc, .slice x.mA x.ms.length x.mc, .slice x.gA x.gs.length x.gc, .int .i64 x.time, .slice x.dA x.ds.length x.dc, .slice x.lA x.ls.length x.lc]; rwa [World.size_alloc] at this
  go_wp2_with fail
  refine (E1.out _).mono ?_
  rintro e w1 ⟨rfl, g⟩
  replace B := via0 g B
  replace P := P.below g P.lt
  replace R := R.below g R.lt
  clear g
  obtain ⟨u0, u1, u2, u3⟩ := P.row4
  obtain ⟨v0, v1, v2, v3, v4, v5⟩ := R.row6
  have q1 := P.lt
  have q2 := R.lt
  go_wp2_with fail
  refine (E8.out _).mono ?_
  rintro e w8 ⟨rfl, rfl⟩
  go_wp2_with fail
  refine (E13.out _ B).mono ?_
  rintro e w13 ⟨rfl, g⟩
  replace B := via0 g B
  replace P := P.below g P.lt
  replace R := R.below g R.lt
  clear g u0 u1 u2 u3 v0 v1 v2 v3 v4 v5 q1 q2
  obtain ⟨u0, u1, u2, u3⟩ := P.row4
  obtain ⟨v0, v1, v2, v3, v4, v5⟩ := R.row6
  have q1 := P.lt
  have q2 := R.lt
  have HP := hidP P
  have HR := hidP R
  clear P R u0 u1 u2 u3 v0 v1 v2 v3 v4 v5 q1 q2 q6 q9 q11 E1 E8 E13
  go_wp2
  go_loopw [5] (fun i w' => ∃ (n : Nat), i = .int .i64 (n : Int) /\ n <= nr /\ Hid ((x.rs.take n).all rowF = true) /\ Hid (Blk w' w.heap.size 39 #[.int .i64 (nr : Int), .int .i64 wi, .int .i64 le, .int .i64 ke]) /\ Hid (Blk w' (w.heap.size + 1) 49 #[.slice x.rA x.rs.length x.rc, .slice x.mA x.ms.length x.mc, .slice x.gA x.gs.length x.gc, .int .i64 x.time, .slice x.dA x.ds.length x.dc, .slice x.lA x.ls.length x.lc]) /\ Below w.heap.size w w') (fun i _ => nr - (intOf i).toNat)
  case atStart => exact ⟨0, rfl, by omega, rfl, HP, HR, B⟩
  case round =>
    obtain ⟨n, rfl, hn, hal, HP, HR, B⟩ := hrel
    obtain ⟨u0, u1, u2, u3⟩ := HP.out.row4
    obtain ⟨v0, v1, v2, v3, v4, v5⟩ := HR.out.row6
    have q1 := HP.out.lt
    have q2 := HR.out.lt
    by_cases hlt' : n < nr
    . have hlt : n < x.rs.length := by have := Hnr.out; omega
      have hi0 : (0 : Int) <= (n : Int) := by omega
      have hi1 : (n : Int) < (x.rs.length : Int) := by omega
      obtain ⟨b, o, hbo, hbs, hIn⟩ : ∃ b o, x.rA = some ⟨b, o, none⟩ /\ b < w.heap.size /\ In w b o x.rs := by
        rcases HX.out.ra with h | h
        . rw [h] at hlt; simp at hlt
        . exact h
      obtain ⟨c0, c1, c2⟩ := (hIn.below hbs B).getRC n hlt
      rw [hbo] at v0
      have hri := Ha.out.rr _ (List.getElem_mem hlt)
      have HC : ∀ W : World, Below wr.heap.size wr W -> Calls Tryz.prog 79 #[.agg #[.int .i64 x.rs[n].start, .int .i64 x.rs[n].next, .slice x.rs[n].A x.rs[n].its.length x.rs[n].cap]] W fun e w' => e = .returned (.bool (rowF x.rs[n])) /\ Below W.heap.size W w' := fun W g => Items.specRowOk_any _ _ _ _ _ hri.2.2.1 (fun y hy => (hri.2.2.2 y hy).2.2.2) hri.2.1.1 hri.2.1.2 W (((HX.out.re _ (List.getElem_mem hlt)).below B).below g)
      have hsu := all_succ rowF hlt
      have hno := all_no rowF hlt
      generalize hb : rowF x.rs[n] = bb at HC hsu hno
      have HC := hidP HC
      clear hb hri hbo
      have qb : b < wr.heap.size := Nat.lt_of_lt_of_le hbs B.size
      cases bb
      . have hF : Hid (keepB (nr : Int) wi le ke x = false) := by show _ = _; rw [hFl.out, hno rfl]; rfl
        clear hno hsu
        go_wp2_with fail
        refine (HC.out _ (Below.refl _ _)).mono ?_
        rintro e w1 ⟨rfl, g1⟩
        go_wp2
        go_ret
        exact ⟨by rw [hF.out]; rfl, via0 g1 B⟩
      . have hal1 : Hid ((x.rs.take (n + 1)).all rowF = true) := by show _ = _; rw [hsu, hal.out]; rfl
        clear hno hsu
        go_wp2_with fail
        refine (HC.out _ (Below.refl _ _)).mono ?_
        rintro e w1 ⟨rfl, g1⟩
        have HP1 := hidP (HP.out.below g1 q1)
        have HR1 := hidP (HR.out.below g1 q2)
        go_wp2
        exact ⟨⟨n + 1, by go_num, by omega, hal1, HP1, HR1, via0 g1 B⟩, by simp [intOf]; omega⟩
    . have hR : Hid (x.rs.all rowF = true) := by
        have h := hal.out
        rw [List.take_of_length_le (by have := Hnr.out; omega)] at h
        exact h
      clear hal
      go_wp2
      clear u0 u1 u2 u3 v0 v1 v2 v3 v4 v5 q1 q2
      go_loopw [6] (fun i w' => ∃ (n : Nat), i = .int .i64 (n : Int) /\ n <= 2 /\ Hid ((x.gs.take n).all (grpF (nr : Int)) = true) /\ Hid (Blk w' w.heap.size 39 #[.int .i64 (nr : Int), .int .i64 wi, .int .i64 le, .int .i64 ke]) /\ Hid (Blk w' (w.heap.size + 1) 49 #[.slice x.rA x.rs.length x.rc, .slice x.mA x.ms.length x.mc, .slice x.gA x.gs.length x.gc, .int .i64 x.time, .slice x.dA x.ds.length x.dc, .slice x.lA x.ls.length x.lc]) /\ Below w.heap.size w w') (fun i _ => 2 - (intOf i).toNat)
      case atStart => exact ⟨0, rfl, by omega, rfl, HP, HR, B⟩
      case round =>
        obtain ⟨n, rfl, hn, hal, HP, HR, B⟩ := hrel
        obtain ⟨u0, u1, u2, u3⟩ := HP.out.row4
        obtain ⟨v0, v1, v2, v3, v4, v5⟩ := HR.out.row6
        have q1 := HP.out.lt
        have q2 := HR.out.lt
        by_cases hlt' : n < 2
        . have hlt : n < x.gs.length := by have := hg2.out; omega
          have hi0 : (0 : Int) <= (n : Int) := by omega
          have hi1 : (n : Int) < (x.gs.length : Int) := by omega
          obtain ⟨b, o, hbo, hbs, hIn⟩ : ∃ b o, x.gA = some ⟨b, o, none⟩ /\ b < w.heap.size /\ In w b o x.gs := by
            rcases HX.out.ga with h | h
            . rw [h] at hlt; simp at hlt
            . exact h
          obtain ⟨c0, c1, c2, c3⟩ := (hIn.below hbs B).getGC n hlt
          rw [hbo] at v2
          have HC : ∀ W : World, Below wr.heap.size wr W -> Calls Tryz.prog 80 #[.agg #[.int .i64 x.gs[n].gen, .slice x.gs[n].a1 x.gs[n].m.length x.gs[n].c1, .slice x.gs[n].a2 x.gs[n].b.length x.gs[n].c2, .slice x.gs[n].a3 x.gs[n].o.length x.gs[n].c3], .int .i64 (nr : Int)] W fun e w' => e = .returned (.bool (grpF (nr : Int) x.gs[n])) /\ Below W.heap.size W w' := fun W g => by
            have h3 := ((HX.out.ge _ (List.getElem_mem hlt)).below B).below g
            exact specGok_any _ _ _ _ _ _ _ _ _ _ _ (Ha.out.fit.gi _ (List.getElem_mem hlt)) W h3.1 h3.2.1 h3.2.2
          have hsu := all_succ (grpF (nr : Int)) hlt
          have hno := all_no (grpF (nr : Int)) hlt
          generalize hb : grpF (nr : Int) x.gs[n] = bb at HC hsu hno
          generalize x.gs[n] = y at c0 c1 c2 c3 HC
          have HC := hidP HC
          clear hb hbo
          have qb : b < wr.heap.size := Nat.lt_of_lt_of_le hbs B.size
          cases bb
          . have hF : Hid (keepB (nr : Int) wi le ke x = false) := by show _ = _; rw [hFl.out, hno rfl, hR.out]; rfl
            clear hno hsu
            go_wp2_with fail
            refine wp_region_noPanic ?_
            refine wp_region_held_drew (S := (fun w' => w'.cell? ⟨w.heap.size + 1, 2, none⟩ = some (.slice (some ⟨b, o, none⟩) x.gs.length x.gc) /\ w'.cell? ⟨b, o + n * 4, none⟩ = some (.int .i64 y.gen) /\ w'.cell? ⟨b, o + n * 4 + 1, none⟩ = some (.slice y.a1 y.m.length y.c1) /\ w'.cell? ⟨b, o + n * 4 + 2, none⟩ = some (.slice y.a2 y.b.length y.c2) /\ w'.cell? ⟨b, o + n * 4 + 3, none⟩ = some (.slice y.a3 y.o.length y.c3) /\ w'.cell? ⟨w.heap.size, 0, none⟩ = some (.int .i64 (nr : Int)))) (by kernel_rfl) ?_ (fun hH => ?_)
            . (refine ⟨?_, ?_, ?_, ?_, ?_, ?_⟩<;>assumption)
            refine ztk [0,1,2,3,4,5,6] ?_; repeat (refine ztn (h := ?_); try simp only [zX,zY])
            refine zte ?_
            refine zR1 7 (fun K hK => ?_)
            simp only [zG]
            go_simp
            (go_at_call 80; refine (HC.out _ (Below.drew (Below.refl _ _))).mono ?_; rintro e w1 ⟨rfl, g1⟩; obtain ⟨k1, m1⟩ := bcell g1; have HG1 := hidP g1)
            refine hK.out _ _ ?_ (fun hH => ?_)
            . (go_split_ands; exact ⟨(k1 _ _ q2).trans (by assumption), (k1 _ _ qb).trans (by assumption), (k1 _ _ qb).trans (by assumption), (k1 _ _ qb).trans (by assumption), (k1 _ _ qb).trans (by assumption), (k1 _ _ q1).trans (by assumption)⟩)
            clear hK K
            try simp only [zX,zY]
            refine zt1 8 ?_; refine ztn (h := ?_); try simp only [zX,zY]
            refine zte ?_
            refine zdn ?_
            go_wp2
            go_ret
            exact ⟨by rw [hF.out]; rfl, via0 HG1.out B.drew⟩
          . have hal1 : Hid ((x.gs.take (n + 1)).all (grpF (nr : Int)) = true) := by show _ = _; rw [hsu, hal.out]; rfl
            clear hno hsu
            go_wp2_with fail
            refine wp_region_noPanic ?_
            refine wp_region_held_drew (S := (fun w' => w'.cell? ⟨w.heap.size + 1, 2, none⟩ = some (.slice (some ⟨b, o, none⟩) x.gs.length x.gc) /\ w'.cell? ⟨b, o + n * 4, none⟩ = some (.int .i64 y.gen) /\ w'.cell? ⟨b, o + n * 4 + 1, none⟩ = some (.slice y.a1 y.m.length y.c1) /\ w'.cell? ⟨b, o + n * 4 + 2, none⟩ = some (.slice y.a2 y.b.length y.c2) /\ w'.cell? ⟨b, o + n * 4 + 3, none⟩ = some (.slice y.a3 y.o.length y.c3) /\ w'.cell? ⟨w.heap.size, 0, none⟩ = some (.int .i64 (nr : Int)))) (by kernel_rfl) ?_ (fun hH => ?_)
            . (refine ⟨?_, ?_, ?_, ?_, ?_, ?_⟩<;>assumption)
            refine ztk [0,1,2,3,4,5,6] ?_; repeat (refine ztn (h := ?_); try simp only [zX,zY])
            refine zte ?_
            refine zR1 7 (fun K hK => ?_)
            simp only [zG]
            go_simp
            (go_at_call 80; refine (HC.out _ (Below.drew (Below.refl _ _))).mono ?_; rintro e w1 ⟨rfl, g1⟩; obtain ⟨k1, m1⟩ := bcell g1; have HG1 := hidP g1)
            refine hK.out _ _ ?_ (fun hH => ?_)
            . (go_split_ands; exact ⟨(k1 _ _ q2).trans (by assumption), (k1 _ _ qb).trans (by assumption), (k1 _ _ qb).trans (by assumption), (k1 _ _ qb).trans (by assumption), (k1 _ _ qb).trans (by assumption), (k1 _ _ q1).trans (by assumption)⟩)
            clear hK K
            try simp only [zX,zY]
            refine zt1 8 ?_; refine ztn (h := ?_); try simp only [zX,zY]
            refine zte ?_
            refine zdn ?_
            have HP1 := hidP (HP.out.below (via0 HG1.out (Below.drew (Below.refl _ _))) q1)
            have HR1 := hidP (HR.out.below (via0 HG1.out (Below.drew (Below.refl _ _))) q2)
            go_wp2
            exact ⟨⟨n + 1, by go_num, by omega, hal1, HP1, HR1, via0 HG1.out B.drew⟩, by simp [intOf]; omega⟩
        . have hG : Hid (x.gs.all (grpF (nr : Int)) = true) := by
            have h := hal.out
            rw [List.take_of_length_le (by have := hg2.out; omega)] at h
            exact h
          clear hal
          go_wp2
          clear u0 u1 u2 u3 v0 v1 v2 v3 v4 v5 q1 q2
          go_loopw [7] (fun i w' => ∃ (n : Nat), i = .int .i64 (n : Int) /\ n <= 4 /\ Hid (numTo x.ds n = true) /\ Hid ((x.ls.take n).all ansF = true) /\ Hid (Blk w' (w.heap.size + 1) 49 #[.slice x.rA x.rs.length x.rc, .slice x.mA x.ms.length x.mc, .slice x.gA x.gs.length x.gc, .int .i64 x.time, .slice x.dA x.ds.length x.dc, .slice x.lA x.ls.length x.lc]) /\ Below w.heap.size w w') (fun i _ => 4 - (intOf i).toNat)
          case atStart => exact ⟨0, rfl, by omega, rfl, rfl, HR, B⟩
          case round =>
            obtain ⟨n, rfl, hn, hnu, hal, HR, B⟩ := hrel
            obtain ⟨v0, v1, v2, v3, v4, v5⟩ := HR.out.row6
            have q2 := HR.out.lt
            by_cases hlt' : n < 4
            . have hlt : n < x.ds.length := by have := hd4.out; omega
              have hltl : n < x.ls.length := by have := hl4.out; omega
              have hi0 : (0 : Int) <= (n : Int) := by omega
              have hi1 : (n : Int) < (x.ds.length : Int) := by omega
              have hi2 : (n : Int) < (x.ls.length : Int) := by omega
              obtain ⟨b, o, hbo, hbs, hIn⟩ : ∃ b o, x.dA = some ⟨b, o, none⟩ /\ b < w.heap.size /\ In w b o x.ds := by
                rcases HX.out.da with h | h
                . rw [h] at hlt; simp at hlt
                . exact h
              obtain ⟨b', o', hbo', hbs', hIn'⟩ : ∃ b o, x.lA = some ⟨b, o, none⟩ /\ b < w.heap.size /\ In w b o x.ls := by
                rcases HX.out.la with h | h
                . rw [h] at hltl; simp at hltl
                . exact h
              have d0 := (hIn.below hbs B).getInt n hlt
              obtain ⟨c0, c1, c2, c3⟩ := (hIn'.below hbs' B).getAn n hltl
              rw [hbo] at v4
              rw [hbo'] at v5
              have hri := Ha.out.lr _ (List.getElem_mem hltl)
              have HC : ∀ W : World, Calls Tryz.prog 81 #[.agg #[.int .i64 x.ls[n].code, .int .i64 x.ls[n].n, .string x.ls[n].key, .string x.ls[n].text]] W fun e w' => e = .returned (.bool (ansF x.ls[n])) /\ Below W.heap.size W w' := fun W => specAnswer_any _ _ _ _ hri.2.2.1 hri.2.2.2 W
              have HD : ∀ W : World, Calls Tryz.prog 34 #[.int .i64 x.ds[n], .int .i64 0, .int .i64 100000] W fun e w' => e = .returned (.bool (inB x.ds[n] 0 100000)) /\ w' = W := fun W => in_any _ _ _ W
              have hsu := all_succ ansF hltl
              have hno := all_no ansF hltl
              have hsd := numTo_succ hlt
              have hnd := numTo_no hlt
              generalize hb : ansF x.ls[n] = bb at HC hsu hno
              generalize hb' : inB x.ds[n] 0 100000 = cc at HD hsd hnd
              have HC := hidP HC
              have HD := hidP HD
              clear hb hb' hri hbo hbo'
              have qb : b < wr.heap.size := Nat.lt_of_lt_of_le hbs B.size
              have qb' : b' < wr.heap.size := Nat.lt_of_lt_of_le hbs' B.size
              cases cc
              . have hF : Hid (keepB (nr : Int) wi le ke x = false) := by show _ = _; rw [hFl.out, hnd rfl]; simp
                clear hno hsu hnd hsd
                go_wp2_with fail
                refine (HD.out _).mono ?_
                rintro e w1 ⟨rfl, rfl⟩
                go_wp2
                go_ret
                exact ⟨by rw [hF.out]; rfl, B⟩
              have hnu1 : Hid (numTo x.ds (n + 1) = true) := by show _ = _; rw [hsd, hnu.out]; rfl
              cases bb
              . have hF : Hid (keepB (nr : Int) wi le ke x = false) := by show _ = _; rw [hFl.out, hno rfl]; simp
                clear hno hsu hnd hsd
                go_wp2_with fail
                refine (HD.out _).mono ?_
                rintro e w1 ⟨rfl, rfl⟩
                go_wp2_with fail
                refine (HC.out _).mono ?_
                rintro e w2 ⟨rfl, g2⟩
                go_wp2
                go_ret
                exact ⟨by rw [hF.out]; rfl, via0 g2 B⟩
              . have hal1 : Hid ((x.ls.take (n + 1)).all ansF = true) := by show _ = _; rw [hsu, hal.out]; rfl
                clear hno hsu hnd hsd
                go_wp2_with fail
                refine (HD.out _).mono ?_
                rintro e w1 ⟨rfl, rfl⟩
                go_wp2_with fail
                refine (HC.out _).mono ?_
                rintro e w2 ⟨rfl, g2⟩
                have HR1 := hidP (HR.out.below g2 q2)
                go_wp2
                exact ⟨⟨n + 1, by go_num, by omega, hnu1, hal1, HR1, via0 g2 B⟩, by simp [intOf]; omega⟩
            . have hF : Hid (keepB (nr : Int) wi le ke x = true) := by
                show _ = _
                have h1 := hnu.out
                have h2 := hal.out
                have e1 : n = x.ds.length := by have := hd4.out; omega
                rw [List.take_of_length_le (by have := hl4.out; omega)] at h2
                rw [e1] at h1
                rw [hFl.out, hR.out, hG.out, h1, h2]; rfl
              go_wp2
              go_ret
              exact ⟨by rw [hF.out]; rfl, B⟩
end Go.Proofs.YtaefjifcnoiplaaGreat.Gen

/-
  The program's KeepOk at this seat. No condition but that its lists have at most 1048576 records in all.
-/
namespace Go.Proofs.YtaefjifcnoiplaaGreat.Gen
open Go.ChangeShapes Go.WideShapes Go.ChangeAt Go.RowKit Go.Joins Go.Deep Base
set_option linter.unusedVariables false
set_option linter.unusedSimpArgs false
set_option maxRecDepth 100000 in
set_option maxHeartbeats 4000000 in
theorem implKeepOk_any (ro wi le ke : Int) (x : KC) (ha : KAsk x) (w : World) (hx : KAt w x) :
    Calls Tryz.prog 50 #[.agg #[.int .i64 ro, .int .i64 wi, .int .i64 le, .int .i64 ke], .agg #[.slice x.rA x.rs.length x.rc, .slice x.mA x.ms.length x.mc, .slice x.gA x.gs.length x.gc, .int .i64 x.time, .slice x.dA x.ds.length x.dc, .slice x.lA x.ls.length x.lc]] w fun e w' => e = .returned (.bool (keepB ro wi le ke x)) /\ Below w.heap.size w w' := by
  obtain ⟨b1, h1⟩ : ∃ b, setB ro wi le ke = b := ⟨_, rfl⟩
  obtain ⟨b2, h2⟩ : ∃ b, decide ((x.rs.length : Int) = ro) = b := ⟨_, rfl⟩
  obtain ⟨b3, h3⟩ : ∃ b, x.rs.all rowF = b := ⟨_, rfl⟩
  obtain ⟨b4, h4⟩ : ∃ b, ordTo x.ms x.ms.length = b := ⟨_, rfl⟩
  obtain ⟨b5, h5⟩ : ∃ b, x.ms.all (makF ro wi) = b := ⟨_, rfl⟩
  obtain ⟨b6, h6⟩ : ∃ b, decide ((x.gs.length : Int) = 2) = b := ⟨_, rfl⟩
  obtain ⟨b7, h7⟩ : ∃ b, x.gs.all (grpF ro) = b := ⟨_, rfl⟩
  obtain ⟨b8, h8⟩ : ∃ b, inB x.time 0 100000 = b := ⟨_, rfl⟩
  obtain ⟨b9, h9⟩ : ∃ b, decide ((x.ds.length : Int) = 4) = b := ⟨_, rfl⟩
  obtain ⟨b10, h10⟩ : ∃ b, numTo x.ds x.ds.length = b := ⟨_, rfl⟩
  obtain ⟨b11, h11⟩ : ∃ b, decide ((x.ls.length : Int) = 4) = b := ⟨_, rfl⟩
  obtain ⟨b12, h12⟩ : ∃ b, x.ls.all ansF = b := ⟨_, rfl⟩
  have hF : Hid (keepB ro wi le ke x = (b1 && b2 && b3 && b4 && b5 && b6 && b7 && b8 && b9 && b10 && b11 && b12)) := by
    show _ = _
    rw [keepB, h1, h2, h3, h4, h5, h6, h7, h8, h9, h10, h11, h12]
  have q2 : ((x.rs.length : Int) == ro) = b2 := h2
  have q6 : ((x.gs.length : Int) == 2) = b6 := h6
  have q9 : ((x.ds.length : Int) == 4) = b9 := h9
  have q11 : ((x.ls.length : Int) == 4) = b11 := h11
  have f := ha.fit
  have E1 : Hid (∀ W : World, Calls Tryz.prog 97 #[.agg #[.int .i64 ro, .int .i64 wi, .int .i64 le, .int .i64 ke]] W fun e w' => e = .returned (.bool b1) /\ Below W.heap.size W w') := fun W => h1 ▸ implSetup_any ro wi le ke W
  have E3 : Hid (∀ W : World, Below w.heap.size w W -> Calls Tryz.prog 98 #[.slice x.rA x.rs.length x.rc, .func (.func 99) #[] #[]] W fun e w' => e = .returned (.bool b3) /\ Below W.heap.size W w') := fun W g => h3 ▸ eachRow_any _ _ x.rs f.rl f.ri ha.rr W (hx.below g).ra (hx.below g).re
  have E4 : Hid (∀ W : World, Below w.heap.size w W -> Calls Tryz.prog 100 #[.slice x.mA x.ms.length x.mc] W fun e w' => e = .returned (.bool b4) /\ Below W.heap.size W w') := fun W g => h4 ▸ inOrderM_any _ _ x.ms f.ml W (hx.below g).ma
  have E5 : Hid (∀ W : World, Below w.heap.size w W -> Blk W w.heap.size 39 #[.int .i64 ro, .int .i64 wi, .int .i64 le, .int .i64 ke] -> Calls Tryz.prog 101 #[.slice x.mA x.ms.length x.mc, .func (.func 102) #[] #[.pointer (some ⟨w.heap.size, 0, none⟩)]] W fun e w' => e = .returned (.bool b5) /\ Below W.heap.size W w') := fun W g hs => h5 ▸ eachMaker_any ro wi le ke _ _ _ x.ms f.ml f.mi W hs (hx.below g).ma (hx.below g).me
  have E7 : Hid (∀ W : World, Below w.heap.size w W -> Blk W w.heap.size 39 #[.int .i64 ro, .int .i64 wi, .int .i64 le, .int .i64 ke] -> Calls Tryz.prog 104 #[.slice x.gA x.gs.length x.gc, .func (.func 105) #[] #[.pointer (some ⟨w.heap.size, 0, none⟩)]] W fun e w' => e = .returned (.bool b7) /\ Below W.heap.size W w') := fun W g hs => h7 ▸ eachGroup_any ro wi le ke _ _ _ x.gs f.gl f.gi W hs (hx.below g).ga (hx.below g).ge
  have E8 : Hid (∀ W : World, Calls Tryz.prog 48 #[.int .i64 x.time, .int .i64 0, .int .i64 100000] W fun e w' => e = .returned (.bool b8) /\ w' = W) := fun W => h8 ▸ within_any _ _ _ W
  have E10 : Hid (∀ W : World, Below w.heap.size w W -> Calls Tryz.prog 107 #[.slice x.dA x.ds.length x.dc] W fun e w' => e = .returned (.bool b10) /\ w' = W) := fun W g => h10 ▸ areNum_any _ _ x.ds f.dl W (hx.below g).da
  have E12 : Hid (∀ W : World, Below w.heap.size w W -> Calls Tryz.prog 108 #[.slice x.lA x.ls.length x.lc, .func (.func 109) #[] #[]] W fun e w' => e = .returned (.bool b12) /\ Below W.heap.size W w') := fun W g => h12 ▸ eachAnswer_any _ _ x.ls f.ll ha.lr W (hx.below g).la
  clear h1 h2 h3 h4 h5 h6 h7 h8 h9 h10 h11 h12 f hx ha
  cases b1
  case false =>
    go_enter Tryz.func50, Tryz.ntmps50
    have B : Below w.heap.size w ((w.alloc (.cells #[.int .i64 ro, .int .i64 wi, .int .i64 le, .int .i64 ke] 39)).alloc (.cells #[.slice x.rA x.rs.length x.rc, .slice x.mA x.ms.length x.mc, .slice x.gA x.gs.length x.gc, .int .i64 x.time, .slice x.dA x.ds.length x.dc, .slice x.lA x.ls.length x.lc] 49)) := alloc0 (alloc0 (Below.refl _ _) _) _
    have P : Blk ((w.alloc (.cells #[.int .i64 ro, .int .i64 wi, .int .i64 le, .int .i64 ke] 39)).alloc (.cells #[.slice x.rA x.rs.length x.rc, .slice x.mA x.ms.length x.mc, .slice x.gA x.gs.length x.gc, .int .i64 x.time, .slice x.dA x.ds.length x.dc, .slice x.lA x.ls.length x.lc] 49)) w.heap.size 39 #[.int .i64 ro, .int .i64 wi, .int .i64 le, .int .i64 ke] := (Blk.new w _ _).alloc _
    have R : Blk ((w.alloc (.cells #[.int .i64 ro, .int .i64 wi, .int .i64 le, .int .i64 ke] 39)).alloc (.cells #[.slice x.rA x.rs.length x.rc, .slice x.mA x.ms.length x.mc, .slice x.gA x.gs.length x.gc, .int .i64 x.time, .slice x.dA x.ds.length x.dc, .slice x.lA x.ls.length x.lc] 49)) (w.heap.size + 1) 49 #[.slice x.rA x.rs.length x.rc, .slice x.mA x.ms.length x.mc, .slice x.gA x.gs.length x.gc, .int .i64 x.time, .slice x.dA x.ds.length x.dc, .slice x.lA x.ls.length x.lc] := by have := Blk.new (w.alloc (.cells #[.int .i64 ro, .int .i64 wi, .int .i64 le, .int .i64 ke] 39)) 49 #[.slice x.rA x.rs.length x.rc, .slice x.mA x.ms.length x.mc, .slice x.gA x.gs.length x.gc, .int .i64 x.time, .slice x.dA x.ds.length x.dc, .slice x.lA x.ls.length x.lc]; rwa [World.size_alloc] at this
    go_wp2_with fail
    refine (E1.out _).mono ?_
    rintro e w1 ⟨rfl, g⟩
    replace B := via0 g B
    replace P := P.below g P.lt
    replace R := R.below g R.lt
    clear g
    obtain ⟨u0, u1, u2, u3⟩ := P.row4
    obtain ⟨v0, v1, v2, v3, v4, v5⟩ := R.row6
    have q1 := P.lt
    have q2 := R.lt
    go_wp2
    go_ret
    exact ⟨by rw [hF.out]; rfl, B⟩
  cases b2
  case false =>
    go_enter Tryz.func50, Tryz.ntmps50
    have B : Below w.heap.size w ((w.alloc (.cells #[.int .i64 ro, .int .i64 wi, .int .i64 le, .int .i64 ke] 39)).alloc (.cells #[.slice x.rA x.rs.length x.rc, .slice x.mA x.ms.length x.mc, .slice x.gA x.gs.length x.gc, .int .i64 x.time, .slice x.dA x.ds.length x.dc, .slice x.lA x.ls.length x.lc] 49)) := alloc0 (alloc0 (Below.refl _ _) _) _
    have P : Blk ((w.alloc (.cells #[.int .i64 ro, .int .i64 wi, .int .i64 le, .int .i64 ke] 39)).alloc (.cells #[.slice x.rA x.rs.length x.rc, .slice x.mA x.ms.length x.mc, .slice x.gA x.gs.length x.gc, .int .i64 x.time, .slice x.dA x.ds.length x.dc, .slice x.lA x.ls.length x.lc] 49)) w.heap.size 39 #[.int .i64 ro, .int .i64 wi, .int .i64 le, .int .i64 ke] := (Blk.new w _ _).alloc _
    have R : Blk ((w.alloc (.cells #[.int .i64 ro, .int .i64 wi, .int .i64 le, .int .i64 ke] 39)).alloc (.cells #[.slice x.rA x.rs.length x.rc, .slice x.mA x.ms.length x.mc, .slice x.gA x.gs.length x.gc, .int .i64 x.time, .slice x.dA x.ds.length x.dc, .slice x.lA x.ls.length x.lc] 49)) (w.heap.size + 1) 49 #[.slice x.rA x.rs.length x.rc, .slice x.mA x.ms.length x.mc, .slice x.gA x.gs.length x.gc, .int .i64 x.time, .slice x.dA x.ds.length x.dc, .slice x.lA x.ls.length x.lc] := by have := Blk.new (w.alloc (.cells #[.int .i64 ro, .int .i64 wi, .int .i64 le, .int .i64 ke] 39)) 49 #[.slice x.rA x.rs.length x.rc, .slice x.mA x.ms.length x.mc, .slice x.gA x.gs.length x.gc, .int .i64 x.time, .slice x.dA x.ds.length x.dc, .slice x.lA x.ls.length x.lc]; rwa [World.size_alloc] at this
    go_wp2_with fail
    refine (E1.out _).mono ?_
    rintro e w1 ⟨rfl, g⟩
    replace B := via0 g B
    replace P := P.below g P.lt
    replace R := R.below g R.lt
    clear g
    obtain ⟨u0, u1, u2, u3⟩ := P.row4
    obtain ⟨v0, v1, v2, v3, v4, v5⟩ := R.row6
    have q1 := P.lt
    have q2 := R.lt
    go_wp2
    go_ret
    exact ⟨by rw [hF.out]; rfl, B⟩
  cases b3
  case false =>
    go_enter Tryz.func50, Tryz.ntmps50
    have B : Below w.heap.size w ((w.alloc (.cells #[.int .i64 ro, .int .i64 wi, .int .i64 le, .int .i64 ke] 39)).alloc (.cells #[.slice x.rA x.rs.length x.rc, .slice x.mA x.ms.length x.mc, .slice x.gA x.gs.length x.gc, .int .i64 x.time, .slice x.dA x.ds.length x.dc, .slice x.lA x.ls.length x.lc] 49)) := alloc0 (alloc0 (Below.refl _ _) _) _
    have P : Blk ((w.alloc (.cells #[.int .i64 ro, .int .i64 wi, .int .i64 le, .int .i64 ke] 39)).alloc (.cells #[.slice x.rA x.rs.length x.rc, .slice x.mA x.ms.length x.mc, .slice x.gA x.gs.length x.gc, .int .i64 x.time, .slice x.dA x.ds.length x.dc, .slice x.lA x.ls.length x.lc] 49)) w.heap.size 39 #[.int .i64 ro, .int .i64 wi, .int .i64 le, .int .i64 ke] := (Blk.new w _ _).alloc _
    have R : Blk ((w.alloc (.cells #[.int .i64 ro, .int .i64 wi, .int .i64 le, .int .i64 ke] 39)).alloc (.cells #[.slice x.rA x.rs.length x.rc, .slice x.mA x.ms.length x.mc, .slice x.gA x.gs.length x.gc, .int .i64 x.time, .slice x.dA x.ds.length x.dc, .slice x.lA x.ls.length x.lc] 49)) (w.heap.size + 1) 49 #[.slice x.rA x.rs.length x.rc, .slice x.mA x.ms.length x.mc, .slice x.gA x.gs.length x.gc, .int .i64 x.time, .slice x.dA x.ds.length x.dc, .slice x.lA x.ls.length x.lc] := by have := Blk.new (w.alloc (.cells #[.int .i64 ro, .int .i64 wi, .int .i64 le, .int .i64 ke] 39)) 49 #[.slice x.rA x.rs.length x.rc, .slice x.mA x.ms.length x.mc, .slice x.gA x.gs.length x.gc, .int .i64 x.time, .slice x.dA x.ds.length x.dc, .slice x.lA x.ls.length x.lc]; rwa [World.size_alloc] at this
    go_wp2_with fail
    refine (E1.out _).mono ?_
    rintro e w1 ⟨rfl, g⟩
    replace B := via0 g B
    replace P := P.below g P.lt
    replace R := R.below g R.lt
    clear g
    obtain ⟨u0, u1, u2, u3⟩ := P.row4
    obtain ⟨v0, v1, v2, v3, v4, v5⟩ := R.row6
    have q1 := P.lt
    have q2 := R.lt
    go_wp2_with fail
    refine (E3.out _ B).mono ?_
    rintro e w3 ⟨rfl, g⟩
    replace B := via0 g B
    replace P := P.below g P.lt
    replace R := R.below g R.lt
    clear g u0 u1 u2 u3 v0 v1 v2 v3 v4 v5 q1 q2
    obtain ⟨u0, u1, u2, u3⟩ := P.row4
    obtain ⟨v0, v1, v2, v3, v4, v5⟩ := R.row6
    have q1 := P.lt
    have q2 := R.lt
    go_wp2
    go_ret
    exact ⟨by rw [hF.out]; rfl, B⟩
  cases b4
  case false =>
    go_enter Tryz.func50, Tryz.ntmps50
    have B : Below w.heap.size w ((w.alloc (.cells #[.int .i64 ro, .int .i64 wi, .int .i64 le, .int .i64 ke] 39)).alloc (.cells #[.slice x.rA x.rs.length x.rc, .slice x.mA x.ms.length x.mc, .slice x.gA x.gs.length x.gc, .int .i64 x.time, .slice x.dA x.ds.length x.dc, .slice x.lA x.ls.length x.lc] 49)) := alloc0 (alloc0 (Below.refl _ _) _) _
    have P : Blk ((w.alloc (.cells #[.int .i64 ro, .int .i64 wi, .int .i64 le, .int .i64 ke] 39)).alloc (.cells #[.slice x.rA x.rs.length x.rc, .slice x.mA x.ms.length x.mc, .slice x.gA x.gs.length x.gc, .int .i64 x.time, .slice x.dA x.ds.length x.dc, .slice x.lA x.ls.length x.lc] 49)) w.heap.size 39 #[.int .i64 ro, .int .i64 wi, .int .i64 le, .int .i64 ke] := (Blk.new w _ _).alloc _
    have R : Blk ((w.alloc (.cells #[.int .i64 ro, .int .i64 wi, .int .i64 le, .int .i64 ke] 39)).alloc (.cells #[.slice x.rA x.rs.length x.rc, .slice x.mA x.ms.length x.mc, .slice x.gA x.gs.length x.gc, .int .i64 x.time, .slice x.dA x.ds.length x.dc, .slice x.lA x.ls.length x.lc] 49)) (w.heap.size + 1) 49 #[.slice x.rA x.rs.length x.rc, .slice x.mA x.ms.length x.mc, .slice x.gA x.gs.length x.gc, .int .i64 x.time, .slice x.dA x.ds.length x.dc, .slice x.lA x.ls.length x.lc] := by have := Blk.new (w.alloc (.cells #[.int .i64 ro, .int .i64 wi, .int .i64 le, .int .i64 ke] 39)) 49 #[.slice x.rA x.rs.length x.rc, .slice x.mA x.ms.length x.mc, .slice x.gA x.gs.length x.gc, .int .i64 x.time, .slice x.dA x.ds.length x.dc, .slice x.lA x.ls.length x.lc]; rwa [World.size_alloc] at this
    go_wp2_with fail
    refine (E1.out _).mono ?_
    rintro e w1 ⟨rfl, g⟩
    replace B := via0 g B
    replace P := P.below g P.lt
    replace R := R.below g R.lt
    clear g
    obtain ⟨u0, u1, u2, u3⟩ := P.row4
    obtain ⟨v0, v1, v2, v3, v4, v5⟩ := R.row6
    have q1 := P.lt
    have q2 := R.lt
    go_wp2_with fail
    refine (E3.out _ B).mono ?_
    rintro e w3 ⟨rfl, g⟩
    replace B := via0 g B
    replace P := P.below g P.lt
    replace R := R.below g R.lt
    clear g u0 u1 u2 u3 v0 v1 v2 v3 v4 v5 q1 q2
    obtain ⟨u0, u1, u2, u3⟩ := P.row4
    obtain ⟨v0, v1, v2, v3, v4, v5⟩ := R.row6
    have q1 := P.lt
    have q2 := R.lt
    go_wp2_with fail
    refine (E4.out _ B).mono ?_
    rintro e w4 ⟨rfl, g⟩
    replace B := via0 g B
    replace P := P.below g P.lt
    replace R := R.below g R.lt
    clear g u0 u1 u2 u3 v0 v1 v2 v3 v4 v5 q1 q2
    obtain ⟨u0, u1, u2, u3⟩ := P.row4
    obtain ⟨v0, v1, v2, v3, v4, v5⟩ := R.row6
    have q1 := P.lt
    have q2 := R.lt
    go_wp2
    go_ret
    exact ⟨by rw [hF.out]; rfl, B⟩
  cases b5
  case false =>
    go_enter Tryz.func50, Tryz.ntmps50
    have B : Below w.heap.size w ((w.alloc (.cells #[.int .i64 ro, .int .i64 wi, .int .i64 le, .int .i64 ke] 39)).alloc (.cells #[.slice x.rA x.rs.length x.rc, .slice x.mA x.ms.length x.mc, .slice x.gA x.gs.length x.gc, .int .i64 x.time, .slice x.dA x.ds.length x.dc, .slice x.lA x.ls.length x.lc] 49)) := alloc0 (alloc0 (Below.refl _ _) _) _
    have P : Blk ((w.alloc (.cells #[.int .i64 ro, .int .i64 wi, .int .i64 le, .int .i64 ke] 39)).alloc (.cells #[.slice x.rA x.rs.length x.rc, .slice x.mA x.ms.length x.mc, .slice x.gA x.gs.length x.gc, .int .i64 x.time, .slice x.dA x.ds.length x.dc, .slice x.lA x.ls.length x.lc] 49)) w.heap.size 39 #[.int .i64 ro, .int .i64 wi, .int .i64 le, .int .i64 ke] := (Blk.new w _ _).alloc _
    have R : Blk ((w.alloc (.cells #[.int .i64 ro, .int .i64 wi, .int .i64 le, .int .i64 ke] 39)).alloc (.cells #[.slice x.rA x.rs.length x.rc, .slice x.mA x.ms.length x.mc, .slice x.gA x.gs.length x.gc, .int .i64 x.time, .slice x.dA x.ds.length x.dc, .slice x.lA x.ls.length x.lc] 49)) (w.heap.size + 1) 49 #[.slice x.rA x.rs.length x.rc, .slice x.mA x.ms.length x.mc, .slice x.gA x.gs.length x.gc, .int .i64 x.time, .slice x.dA x.ds.length x.dc, .slice x.lA x.ls.length x.lc] := by have := Blk.new (w.alloc (.cells #[.int .i64 ro, .int .i64 wi, .int .i64 le, .int .i64 ke] 39)) 49 #[.slice x.rA x.rs.length x.rc, .slice x.mA x.ms.length x.mc, .slice x.gA x.gs.length x.gc, .int .i64 x.time, .slice x.dA x.ds.length x.dc, .slice x.lA x.ls.length x.lc]; rwa [World.size_alloc] at this
    go_wp2_with fail
    refine (E1.out _).mono ?_
    rintro e w1 ⟨rfl, g⟩
    replace B := via0 g B
    replace P := P.below g P.lt
    replace R := R.below g R.lt
    clear g
    obtain ⟨u0, u1, u2, u3⟩ := P.row4
    obtain ⟨v0, v1, v2, v3, v4, v5⟩ := R.row6
    have q1 := P.lt
    have q2 := R.lt
    go_wp2_with fail
    refine (E3.out _ B).mono ?_
    rintro e w3 ⟨rfl, g⟩
    replace B := via0 g B
    replace P := P.below g P.lt
    replace R := R.below g R.lt
    clear g u0 u1 u2 u3 v0 v1 v2 v3 v4 v5 q1 q2
    obtain ⟨u0, u1, u2, u3⟩ := P.row4
    obtain ⟨v0, v1, v2, v3, v4, v5⟩ := R.row6
    have q1 := P.lt
    have q2 := R.lt
    go_wp2_with fail
    refine (E4.out _ B).mono ?_
    rintro e w4 ⟨rfl, g⟩
    replace B := via0 g B
    replace P := P.below g P.lt
    replace R := R.below g R.lt
    clear g u0 u1 u2 u3 v0 v1 v2 v3 v4 v5 q1 q2
    obtain ⟨u0, u1, u2, u3⟩ := P.row4
    obtain ⟨v0, v1, v2, v3, v4, v5⟩ := R.row6
    have q1 := P.lt
    have q2 := R.lt
    go_wp2_with fail
    refine (E5.out _ B P).mono ?_
    rintro e w5 ⟨rfl, g⟩
    replace B := via0 g B
    replace P := P.below g P.lt
    replace R := R.below g R.lt
    clear g u0 u1 u2 u3 v0 v1 v2 v3 v4 v5 q1 q2
    obtain ⟨u0, u1, u2, u3⟩ := P.row4
    obtain ⟨v0, v1, v2, v3, v4, v5⟩ := R.row6
    have q1 := P.lt
    have q2 := R.lt
    go_wp2
    go_ret
    exact ⟨by rw [hF.out]; rfl, B⟩
  cases b6
  case false =>
    go_enter Tryz.func50, Tryz.ntmps50
    have B : Below w.heap.size w ((w.alloc (.cells #[.int .i64 ro, .int .i64 wi, .int .i64 le, .int .i64 ke] 39)).alloc (.cells #[.slice x.rA x.rs.length x.rc, .slice x.mA x.ms.length x.mc, .slice x.gA x.gs.length x.gc, .int .i64 x.time, .slice x.dA x.ds.length x.dc, .slice x.lA x.ls.length x.lc] 49)) := alloc0 (alloc0 (Below.refl _ _) _) _
    have P : Blk ((w.alloc (.cells #[.int .i64 ro, .int .i64 wi, .int .i64 le, .int .i64 ke] 39)).alloc (.cells #[.slice x.rA x.rs.length x.rc, .slice x.mA x.ms.length x.mc, .slice x.gA x.gs.length x.gc, .int .i64 x.time, .slice x.dA x.ds.length x.dc, .slice x.lA x.ls.length x.lc] 49)) w.heap.size 39 #[.int .i64 ro, .int .i64 wi, .int .i64 le, .int .i64 ke] := (Blk.new w _ _).alloc _
    have R : Blk ((w.alloc (.cells #[.int .i64 ro, .int .i64 wi, .int .i64 le, .int .i64 ke] 39)).alloc (.cells #[.slice x.rA x.rs.length x.rc, .slice x.mA x.ms.length x.mc, .slice x.gA x.gs.length x.gc, .int .i64 x.time, .slice x.dA x.ds.length x.dc, .slice x.lA x.ls.length x.lc] 49)) (w.heap.size + 1) 49 #[.slice x.rA x.rs.length x.rc, .slice x.mA x.ms.length x.mc, .slice x.gA x.gs.length x.gc, .int .i64 x.time, .slice x.dA x.ds.length x.dc, .slice x.lA x.ls.length x.lc] := by have := Blk.new (w.alloc (.cells #[.int .i64 ro, .int .i64 wi, .int .i64 le, .int .i64 ke] 39)) 49 #[.slice x.rA x.rs.length x.rc, .slice x.mA x.ms.length x.mc, .slice x.gA x.gs.length x.gc, .int .i64 x.time, .slice x.dA x.ds.length x.dc, .slice x.lA x.ls.length x.lc]; rwa [World.size_alloc] at this
    go_wp2_with fail
    refine (E1.out _).mono ?_
    rintro e w1 ⟨rfl, g⟩
    replace B := via0 g B
    replace P := P.below g P.lt
    replace R := R.below g R.lt
    clear g
    obtain ⟨u0, u1, u2, u3⟩ := P.row4
    obtain ⟨v0, v1, v2, v3, v4, v5⟩ := R.row6
    have q1 := P.lt
    have q2 := R.lt
    go_wp2_with fail
    refine (E3.out _ B).mono ?_
    rintro e w3 ⟨rfl, g⟩
    replace B := via0 g B
    replace P := P.below g P.lt
    replace R := R.below g R.lt
    clear g u0 u1 u2 u3 v0 v1 v2 v3 v4 v5 q1 q2
    obtain ⟨u0, u1, u2, u3⟩ := P.row4
    obtain ⟨v0, v1, v2, v3, v4, v5⟩ := R.row6
    have q1 := P.lt
    have q2 := R.lt
    go_wp2_with fail
    refine (E4.out _ B).mono ?_
    rintro e w4 ⟨rfl, g⟩
    replace B := via0 g B
    replace P := P.below g P.lt
    replace R := R.below g R.lt
    clear g u0 u1 u2 u3 v0 v1 v2 v3 v4 v5 q1 q2
    obtain ⟨u0, u1, u2, u3⟩ := P.row4
    obtain ⟨v0, v1, v2, v3, v4, v5⟩ := R.row6
    have q1 := P.lt
    have q2 := R.lt
    go_wp2_with fail
    refine (E5.out _ B P).mono ?_
    rintro e w5 ⟨rfl, g⟩
    replace B := via0 g B
    replace P := P.below g P.lt
    replace R := R.below g R.lt
    clear g u0 u1 u2 u3 v0 v1 v2 v3 v4 v5 q1 q2
    obtain ⟨u0, u1, u2, u3⟩ := P.row4
    obtain ⟨v0, v1, v2, v3, v4, v5⟩ := R.row6
    have q1 := P.lt
    have q2 := R.lt
    go_wp2
    go_ret
    exact ⟨by rw [hF.out]; rfl, B⟩
  cases b7
  case false =>
    go_enter Tryz.func50, Tryz.ntmps50
    have B : Below w.heap.size w ((w.alloc (.cells #[.int .i64 ro, .int .i64 wi, .int .i64 le, .int .i64 ke] 39)).alloc (.cells #[.slice x.rA x.rs.length x.rc, .slice x.mA x.ms.length x.mc, .slice x.gA x.gs.length x.gc, .int .i64 x.time, .slice x.dA x.ds.length x.dc, .slice x.lA x.ls.length x.lc] 49)) := alloc0 (alloc0 (Below.refl _ _) _) _
    have P : Blk ((w.alloc (.cells #[.int .i64 ro, .int .i64 wi, .int .i64 le, .int .i64 ke] 39)).alloc (.cells #[.slice x.rA x.rs.length x.rc, .slice x.mA x.ms.length x.mc, .slice x.gA x.gs.length x.gc, .int .i64 x.time, .slice x.dA x.ds.length x.dc, .slice x.lA x.ls.length x.lc] 49)) w.heap.size 39 #[.int .i64 ro, .int .i64 wi, .int .i64 le, .int .i64 ke] := (Blk.new w _ _).alloc _
    have R : Blk ((w.alloc (.cells #[.int .i64 ro, .int .i64 wi, .int .i64 le, .int .i64 ke] 39)).alloc (.cells #[.slice x.rA x.rs.length x.rc, .slice x.mA x.ms.length x.mc, .slice x.gA x.gs.length x.gc, .int .i64 x.time, .slice x.dA x.ds.length x.dc, .slice x.lA x.ls.length x.lc] 49)) (w.heap.size + 1) 49 #[.slice x.rA x.rs.length x.rc, .slice x.mA x.ms.length x.mc, .slice x.gA x.gs.length x.gc, .int .i64 x.time, .slice x.dA x.ds.length x.dc, .slice x.lA x.ls.length x.lc] := by have := Blk.new (w.alloc (.cells #[.int .i64 ro, .int .i64 wi, .int .i64 le, .int .i64 ke] 39)) 49 #[.slice x.rA x.rs.length x.rc, .slice x.mA x.ms.length x.mc, .slice x.gA x.gs.length x.gc, .int .i64 x.time, .slice x.dA x.ds.length x.dc, .slice x.lA x.ls.length x.lc]; rwa [World.size_alloc] at this
    go_wp2_with fail
    refine (E1.out _).mono ?_
    rintro e w1 ⟨rfl, g⟩
    replace B := via0 g B
    replace P := P.below g P.lt
    replace R := R.below g R.lt
    clear g
    obtain ⟨u0, u1, u2, u3⟩ := P.row4
    obtain ⟨v0, v1, v2, v3, v4, v5⟩ := R.row6
    have q1 := P.lt
    have q2 := R.lt
    go_wp2_with fail
    refine (E3.out _ B).mono ?_
    rintro e w3 ⟨rfl, g⟩
    replace B := via0 g B
    replace P := P.below g P.lt
    replace R := R.below g R.lt
    clear g u0 u1 u2 u3 v0 v1 v2 v3 v4 v5 q1 q2
    obtain ⟨u0, u1, u2, u3⟩ := P.row4
    obtain ⟨v0, v1, v2, v3, v4, v5⟩ := R.row6
    have q1 := P.lt
    have q2 := R.lt
    go_wp2_with fail
    refine (E4.out _ B).mono ?_
    rintro e w4 ⟨rfl, g⟩
    replace B := via0 g B
    replace P := P.below g P.lt
    replace R := R.below g R.lt
    clear g u0 u1 u2 u3 v0 v1 v2 v3 v4 v5 q1 q2
    obtain ⟨u0, u1, u2, u3⟩ := P.row4
    obtain ⟨v0, v1, v2, v3, v4, v5⟩ := R.row6
    have q1 := P.lt
    have q2 := R.lt
    go_wp2_with fail
    refine (E5.out _ B P).mono ?_
    rintro e w5 ⟨rfl, g⟩
    replace B := via0 g B
    replace P := P.below g P.lt
    replace R := R.below g R.lt
    clear g u0 u1 u2 u3 v0 v1 v2 v3 v4 v5 q1 q2
    obtain ⟨u0, u1, u2, u3⟩ := P.row4
    obtain ⟨v0, v1, v2, v3, v4, v5⟩ := R.row6
    have q1 := P.lt
    have q2 := R.lt
    go_wp2_with fail
    refine (E7.out _ B P).mono ?_
    rintro e w7 ⟨rfl, g⟩
    replace B := via0 g B
    replace P := P.below g P.lt
    replace R := R.below g R.lt
    clear g u0 u1 u2 u3 v0 v1 v2 v3 v4 v5 q1 q2
    obtain ⟨u0, u1, u2, u3⟩ := P.row4
    obtain ⟨v0, v1, v2, v3, v4, v5⟩ := R.row6
    have q1 := P.lt
    have q2 := R.lt
    go_wp2
    go_ret
    exact ⟨by rw [hF.out]; rfl, B⟩
  cases b8
  case false =>
    go_enter Tryz.func50, Tryz.ntmps50
    have B : Below w.heap.size w ((w.alloc (.cells #[.int .i64 ro, .int .i64 wi, .int .i64 le, .int .i64 ke] 39)).alloc (.cells #[.slice x.rA x.rs.length x.rc, .slice x.mA x.ms.length x.mc, .slice x.gA x.gs.length x.gc, .int .i64 x.time, .slice x.dA x.ds.length x.dc, .slice x.lA x.ls.length x.lc] 49)) := alloc0 (alloc0 (Below.refl _ _) _) _
    have P : Blk ((w.alloc (.cells #[.int .i64 ro, .int .i64 wi, .int .i64 le, .int .i64 ke] 39)).alloc (.cells #[.slice x.rA x.rs.length x.rc, .slice x.mA x.ms.length x.mc, .slice x.gA x.gs.length x.gc, .int .i64 x.time, .slice x.dA x.ds.length x.dc, .slice x.lA x.ls.length x.lc] 49)) w.heap.size 39 #[.int .i64 ro, .int .i64 wi, .int .i64 le, .int .i64 ke] := (Blk.new w _ _).alloc _
    have R : Blk ((w.alloc (.cells #[.int .i64 ro, .int .i64 wi, .int .i64 le, .int .i64 ke] 39)).alloc (.cells #[.slice x.rA x.rs.length x.rc, .slice x.mA x.ms.length x.mc, .slice x.gA x.gs.length x.gc, .int .i64 x.time, .slice x.dA x.ds.length x.dc, .slice x.lA x.ls.length x.lc] 49)) (w.heap.size + 1) 49 #[.slice x.rA x.rs.length x.rc, .slice x.mA x.ms.length x.mc, .slice x.gA x.gs.length x.gc, .int .i64 x.time, .slice x.dA x.ds.length x.dc, .slice x.lA x.ls.length x.lc] := by have := Blk.new (w.alloc (.cells #[.int .i64 ro, .int .i64 wi, .int .i64 le, .int .i64 ke] 39)) 49 #[.slice x.rA x.rs.length x.rc, .slice x.mA x.ms.length x.mc, .slice x.gA x.gs.length x.gc, .int .i64 x.time, .slice x.dA x.ds.length x.dc, .slice x.lA x.ls.length x.lc]; rwa [World.size_alloc] at this
    go_wp2_with fail
    refine (E1.out _).mono ?_
    rintro e w1 ⟨rfl, g⟩
    replace B := via0 g B
    replace P := P.below g P.lt
    replace R := R.below g R.lt
    clear g
    obtain ⟨u0, u1, u2, u3⟩ := P.row4
    obtain ⟨v0, v1, v2, v3, v4, v5⟩ := R.row6
    have q1 := P.lt
    have q2 := R.lt
    go_wp2_with fail
    refine (E3.out _ B).mono ?_
    rintro e w3 ⟨rfl, g⟩
    replace B := via0 g B
    replace P := P.below g P.lt
    replace R := R.below g R.lt
    clear g u0 u1 u2 u3 v0 v1 v2 v3 v4 v5 q1 q2
    obtain ⟨u0, u1, u2, u3⟩ := P.row4
    obtain ⟨v0, v1, v2, v3, v4, v5⟩ := R.row6
    have q1 := P.lt
    have q2 := R.lt
    go_wp2_with fail
    refine (E4.out _ B).mono ?_
    rintro e w4 ⟨rfl, g⟩
    replace B := via0 g B
    replace P := P.below g P.lt
    replace R := R.below g R.lt
    clear g u0 u1 u2 u3 v0 v1 v2 v3 v4 v5 q1 q2
    obtain ⟨u0, u1, u2, u3⟩ := P.row4
    obtain ⟨v0, v1, v2, v3, v4, v5⟩ := R.row6
    have q1 := P.lt
    have q2 := R.lt
    go_wp2_with fail
    refine (E5.out _ B P).mono ?_
    rintro e w5 ⟨rfl, g⟩
    replace B := via0 g B
    replace P := P.below g P.lt
    replace R := R.below g R.lt
    clear g u0 u1 u2 u3 v0 v1 v2 v3 v4 v5 q1 q2
    obtain ⟨u0, u1, u2, u3⟩ := P.row4
    obtain ⟨v0, v1, v2, v3, v4, v5⟩ := R.row6
    have q1 := P.lt
    have q2 := R.lt
    go_wp2_with fail
    refine (E7.out _ B P).mono ?_
    rintro e w7 ⟨rfl, g⟩
    replace B := via0 g B
    replace P := P.below g P.lt
    replace R := R.below g R.lt
    clear g u0 u1 u2 u3 v0 v1 v2 v3 v4 v5 q1 q2
    obtain ⟨u0, u1, u2, u3⟩ := P.row4
    obtain ⟨v0, v1, v2, v3, v4, v5⟩ := R.row6
    have q1 := P.lt
    have q2 := R.lt
    go_wp2_with fail
    refine (E8.out _).mono ?_
    rintro e w8 ⟨rfl, rfl⟩
    go_wp2
    go_ret
    exact ⟨by rw [hF.out]; rfl, B⟩
  cases b9
  case false =>
    go_enter Tryz.func50, Tryz.ntmps50
    have B : Below w.heap.size w ((w.alloc (.cells #[.int .i64 ro, .int .i64 wi, .int .i64 le, .int .i64 ke] 39)).alloc (.cells #[.slice x.rA x.rs.length x.rc, .slice x.mA x.ms.length x.mc, .slice x.gA x.gs.length x.gc, .int .i64 x.time, .slice x.dA x.ds.length x.dc, .slice x.lA x.ls.length x.lc] 49)) := alloc0 (alloc0 (Below.refl _ _) _) _
    have P : Blk ((w.alloc (.cells #[.int .i64 ro, .int .i64 wi, .int .i64 le, .int .i64 ke] 39)).alloc (.cells #[.slice x.rA x.rs.length x.rc, .slice x.mA x.ms.length x.mc, .slice x.gA x.gs.length x.gc, .int .i64 x.time, .slice x.dA x.ds.length x.dc, .slice x.lA x.ls.length x.lc] 49)) w.heap.size 39 #[.int .i64 ro, .int .i64 wi, .int .i64 le, .int .i64 ke] := (Blk.new w _ _).alloc _
    have R : Blk ((w.alloc (.cells #[.int .i64 ro, .int .i64 wi, .int .i64 le, .int .i64 ke] 39)).alloc (.cells #[.slice x.rA x.rs.length x.rc, .slice x.mA x.ms.length x.mc, .slice x.gA x.gs.length x.gc, .int .i64 x.time, .slice x.dA x.ds.length x.dc, .slice x.lA x.ls.length x.lc] 49)) (w.heap.size + 1) 49 #[.slice x.rA x.rs.length x.rc, .slice x.mA x.ms.length x.mc, .slice x.gA x.gs.length x.gc, .int .i64 x.time, .slice x.dA x.ds.length x.dc, .slice x.lA x.ls.length x.lc] := by have := Blk.new (w.alloc (.cells #[.int .i64 ro, .int .i64 wi, .int .i64 le, .int .i64 ke] 39)) 49 #[.slice x.rA x.rs.length x.rc, .slice x.mA x.ms.length x.mc, .slice x.gA x.gs.length x.gc, .int .i64 x.time, .slice x.dA x.ds.length x.dc, .slice x.lA x.ls.length x.lc]; rwa [World.size_alloc] at this
    go_wp2_with fail
    refine (E1.out _).mono ?_
    rintro e w1 ⟨rfl, g⟩
    replace B := via0 g B
    replace P := P.below g P.lt
    replace R := R.below g R.lt
    clear g
    obtain ⟨u0, u1, u2, u3⟩ := P.row4
    obtain ⟨v0, v1, v2, v3, v4, v5⟩ := R.row6
    have q1 := P.lt
    have q2 := R.lt
    go_wp2_with fail
    refine (E3.out _ B).mono ?_
    rintro e w3 ⟨rfl, g⟩
    replace B := via0 g B
    replace P := P.below g P.lt
    replace R := R.below g R.lt
    clear g u0 u1 u2 u3 v0 v1 v2 v3 v4 v5 q1 q2
    obtain ⟨u0, u1, u2, u3⟩ := P.row4
    obtain ⟨v0, v1, v2, v3, v4, v5⟩ := R.row6
    have q1 := P.lt
    have q2 := R.lt
    go_wp2_with fail
    refine (E4.out _ B).mono ?_
    rintro e w4 ⟨rfl, g⟩
    replace B := via0 g B
    replace P := P.below g P.lt
    replace R := R.below g R.lt
    clear g u0 u1 u2 u3 v0 v1 v2 v3 v4 v5 q1 q2
    obtain ⟨u0, u1, u2, u3⟩ := P.row4
    obtain ⟨v0, v1, v2, v3, v4, v5⟩ := R.row6
    have q1 := P.lt
    have q2 := R.lt
    go_wp2_with fail
    refine (E5.out _ B P).mono ?_
    rintro e w5 ⟨rfl, g⟩
    replace B := via0 g B
    replace P := P.below g P.lt
    replace R := R.below g R.lt
    clear g u0 u1 u2 u3 v0 v1 v2 v3 v4 v5 q1 q2
    obtain ⟨u0, u1, u2, u3⟩ := P.row4
    obtain ⟨v0, v1, v2, v3, v4, v5⟩ := R.row6
    have q1 := P.lt
    have q2 := R.lt
    go_wp2_with fail
    refine (E7.out _ B P).mono ?_
    rintro e w7 ⟨rfl, g⟩
    replace B := via0 g B
    replace P := P.below g P.lt
    replace R := R.below g R.lt
    clear g u0 u1 u2 u3 v0 v1 v2 v3 v4 v5 q1 q2
    obtain ⟨u0, u1, u2, u3⟩ := P.row4
    obtain ⟨v0, v1, v2, v3, v4, v5⟩ := R.row6
    have q1 := P.lt
    have q2 := R.lt
    go_wp2_with fail
    refine (E8.out _).mono ?_
    rintro e w8 ⟨rfl, rfl⟩
    go_wp2
    go_ret
    exact ⟨by rw [hF.out]; rfl, B⟩
  cases b10
  case false =>
    go_enter Tryz.func50, Tryz.ntmps50
    have B : Below w.heap.size w ((w.alloc (.cells #[.int .i64 ro, .int .i64 wi, .int .i64 le, .int .i64 ke] 39)).alloc (.cells #[.slice x.rA x.rs.length x.rc, .slice x.mA x.ms.length x.mc, .slice x.gA x.gs.length x.gc, .int .i64 x.time, .slice x.dA x.ds.length x.dc, .slice x.lA x.ls.length x.lc] 49)) := alloc0 (alloc0 (Below.refl _ _) _) _
    have P : Blk ((w.alloc (.cells #[.int .i64 ro, .int .i64 wi, .int .i64 le, .int .i64 ke] 39)).alloc (.cells #[.slice x.rA x.rs.length x.rc, .slice x.mA x.ms.length x.mc, .slice x.gA x.gs.length x.gc, .int .i64 x.time, .slice x.dA x.ds.length x.dc, .slice x.lA x.ls.length x.lc] 49)) w.heap.size 39 #[.int .i64 ro, .int .i64 wi, .int .i64 le, .int .i64 ke] := (Blk.new w _ _).alloc _
    have R : Blk ((w.alloc (.cells #[.int .i64 ro, .int .i64 wi, .int .i64 le, .int .i64 ke] 39)).alloc (.cells #[.slice x.rA x.rs.length x.rc, .slice x.mA x.ms.length x.mc, .slice x.gA x.gs.length x.gc, .int .i64 x.time, .slice x.dA x.ds.length x.dc, .slice x.lA x.ls.length x.lc] 49)) (w.heap.size + 1) 49 #[.slice x.rA x.rs.length x.rc, .slice x.mA x.ms.length x.mc, .slice x.gA x.gs.length x.gc, .int .i64 x.time, .slice x.dA x.ds.length x.dc, .slice x.lA x.ls.length x.lc] := by have := Blk.new (w.alloc (.cells #[.int .i64 ro, .int .i64 wi, .int .i64 le, .int .i64 ke] 39)) 49 #[.slice x.rA x.rs.length x.rc, .slice x.mA x.ms.length x.mc, .slice x.gA x.gs.length x.gc, .int .i64 x.time, .slice x.dA x.ds.length x.dc, .slice x.lA x.ls.length x.lc]; rwa [World.size_alloc] at this
    go_wp2_with fail
    refine (E1.out _).mono ?_
    rintro e w1 ⟨rfl, g⟩
    replace B := via0 g B
    replace P := P.below g P.lt
    replace R := R.below g R.lt
    clear g
    obtain ⟨u0, u1, u2, u3⟩ := P.row4
    obtain ⟨v0, v1, v2, v3, v4, v5⟩ := R.row6
    have q1 := P.lt
    have q2 := R.lt
    go_wp2_with fail
    refine (E3.out _ B).mono ?_
    rintro e w3 ⟨rfl, g⟩
    replace B := via0 g B
    replace P := P.below g P.lt
    replace R := R.below g R.lt
    clear g u0 u1 u2 u3 v0 v1 v2 v3 v4 v5 q1 q2
    obtain ⟨u0, u1, u2, u3⟩ := P.row4
    obtain ⟨v0, v1, v2, v3, v4, v5⟩ := R.row6
    have q1 := P.lt
    have q2 := R.lt
    go_wp2_with fail
    refine (E4.out _ B).mono ?_
    rintro e w4 ⟨rfl, g⟩
    replace B := via0 g B
    replace P := P.below g P.lt
    replace R := R.below g R.lt
    clear g u0 u1 u2 u3 v0 v1 v2 v3 v4 v5 q1 q2
    obtain ⟨u0, u1, u2, u3⟩ := P.row4
    obtain ⟨v0, v1, v2, v3, v4, v5⟩ := R.row6
    have q1 := P.lt
    have q2 := R.lt
    go_wp2_with fail
    refine (E5.out _ B P).mono ?_
    rintro e w5 ⟨rfl, g⟩
    replace B := via0 g B
    replace P := P.below g P.lt
    replace R := R.below g R.lt
    clear g u0 u1 u2 u3 v0 v1 v2 v3 v4 v5 q1 q2
    obtain ⟨u0, u1, u2, u3⟩ := P.row4
    obtain ⟨v0, v1, v2, v3, v4, v5⟩ := R.row6
    have q1 := P.lt
    have q2 := R.lt
    go_wp2_with fail
    refine (E7.out _ B P).mono ?_
    rintro e w7 ⟨rfl, g⟩
    replace B := via0 g B
    replace P := P.below g P.lt
    replace R := R.below g R.lt
    clear g u0 u1 u2 u3 v0 v1 v2 v3 v4 v5 q1 q2
    obtain ⟨u0, u1, u2, u3⟩ := P.row4
    obtain ⟨v0, v1, v2, v3, v4, v5⟩ := R.row6
    have q1 := P.lt
    have q2 := R.lt
    go_wp2_with fail
    refine (E8.out _).mono ?_
    rintro e w8 ⟨rfl, rfl⟩
    go_wp2_with fail
    refine (E10.out _ B).mono ?_
    rintro e w10 ⟨rfl, rfl⟩
    go_wp2
    go_ret
    exact ⟨by rw [hF.out]; rfl, B⟩
  cases b11
  case false =>
    go_enter Tryz.func50, Tryz.ntmps50
    have B : Below w.heap.size w ((w.alloc (.cells #[.int .i64 ro, .int .i64 wi, .int .i64 le, .int .i64 ke] 39)).alloc (.cells #[.slice x.rA x.rs.length x.rc, .slice x.mA x.ms.length x.mc, .slice x.gA x.gs.length x.gc, .int .i64 x.time, .slice x.dA x.ds.length x.dc, .slice x.lA x.ls.length x.lc] 49)) := alloc0 (alloc0 (Below.refl _ _) _) _
    have P : Blk ((w.alloc (.cells #[.int .i64 ro, .int .i64 wi, .int .i64 le, .int .i64 ke] 39)).alloc (.cells #[.slice x.rA x.rs.length x.rc, .slice x.mA x.ms.length x.mc, .slice x.gA x.gs.length x.gc, .int .i64 x.time, .slice x.dA x.ds.length x.dc, .slice x.lA x.ls.length x.lc] 49)) w.heap.size 39 #[.int .i64 ro, .int .i64 wi, .int .i64 le, .int .i64 ke] := (Blk.new w _ _).alloc _
    have R : Blk ((w.alloc (.cells #[.int .i64 ro, .int .i64 wi, .int .i64 le, .int .i64 ke] 39)).alloc (.cells #[.slice x.rA x.rs.length x.rc, .slice x.mA x.ms.length x.mc, .slice x.gA x.gs.length x.gc, .int .i64 x.time, .slice x.dA x.ds.length x.dc, .slice x.lA x.ls.length x.lc] 49)) (w.heap.size + 1) 49 #[.slice x.rA x.rs.length x.rc, .slice x.mA x.ms.length x.mc, .slice x.gA x.gs.length x.gc, .int .i64 x.time, .slice x.dA x.ds.length x.dc, .slice x.lA x.ls.length x.lc] := by have := Blk.new (w.alloc (.cells #[.int .i64 ro, .int .i64 wi, .int .i64 le, .int .i64 ke] 39)) 49 #[.slice x.rA x.rs.length x.rc, .slice x.mA x.ms.length x.mc, .slice x.gA x.gs.length x.gc, .int .i64 x.time, .slice x.dA x.ds.length x.dc, .slice x.lA x.ls.length x.lc]; rwa [World.size_alloc] at this
    go_wp2_with fail
    refine (E1.out _).mono ?_
    rintro e w1 ⟨rfl, g⟩
    replace B := via0 g B
    replace P := P.below g P.lt
    replace R := R.below g R.lt
    clear g
    obtain ⟨u0, u1, u2, u3⟩ := P.row4
    obtain ⟨v0, v1, v2, v3, v4, v5⟩ := R.row6
    have q1 := P.lt
    have q2 := R.lt
    go_wp2_with fail
    refine (E3.out _ B).mono ?_
    rintro e w3 ⟨rfl, g⟩
    replace B := via0 g B
    replace P := P.below g P.lt
    replace R := R.below g R.lt
    clear g u0 u1 u2 u3 v0 v1 v2 v3 v4 v5 q1 q2
    obtain ⟨u0, u1, u2, u3⟩ := P.row4
    obtain ⟨v0, v1, v2, v3, v4, v5⟩ := R.row6
    have q1 := P.lt
    have q2 := R.lt
    go_wp2_with fail
    refine (E4.out _ B).mono ?_
    rintro e w4 ⟨rfl, g⟩
    replace B := via0 g B
    replace P := P.below g P.lt
    replace R := R.below g R.lt
    clear g u0 u1 u2 u3 v0 v1 v2 v3 v4 v5 q1 q2
    obtain ⟨u0, u1, u2, u3⟩ := P.row4
    obtain ⟨v0, v1, v2, v3, v4, v5⟩ := R.row6
    have q1 := P.lt
    have q2 := R.lt
    go_wp2_with fail
    refine (E5.out _ B P).mono ?_
    rintro e w5 ⟨rfl, g⟩
    replace B := via0 g B
    replace P := P.below g P.lt
    replace R := R.below g R.lt
    clear g u0 u1 u2 u3 v0 v1 v2 v3 v4 v5 q1 q2
    obtain ⟨u0, u1, u2, u3⟩ := P.row4
    obtain ⟨v0, v1, v2, v3, v4, v5⟩ := R.row6
    have q1 := P.lt
    have q2 := R.lt
    go_wp2_with fail
    refine (E7.out _ B P).mono ?_
    rintro e w7 ⟨rfl, g⟩
    replace B := via0 g B
    replace P := P.below g P.lt
    replace R := R.below g R.lt
    clear g u0 u1 u2 u3 v0 v1 v2 v3 v4 v5 q1 q2
    obtain ⟨u0, u1, u2, u3⟩ := P.row4
    obtain ⟨v0, v1, v2, v3, v4, v5⟩ := R.row6
    have q1 := P.lt
    have q2 := R.lt
    go_wp2_with fail
    refine (E8.out _).mono ?_
    rintro e w8 ⟨rfl, rfl⟩
    go_wp2_with fail
    refine (E10.out _ B).mono ?_
    rintro e w10 ⟨rfl, rfl⟩
    go_wp2
    go_ret
    exact ⟨by rw [hF.out]; rfl, B⟩
  cases b12
  case false =>
    go_enter Tryz.func50, Tryz.ntmps50
    have B : Below w.heap.size w ((w.alloc (.cells #[.int .i64 ro, .int .i64 wi, .int .i64 le, .int .i64 ke] 39)).alloc (.cells #[.slice x.rA x.rs.length x.rc, .slice x.mA x.ms.length x.mc, .slice x.gA x.gs.length x.gc, .int .i64 x.time, .slice x.dA x.ds.length x.dc, .slice x.lA x.ls.length x.lc] 49)) := alloc0 (alloc0 (Below.refl _ _) _) _
    have P : Blk ((w.alloc (.cells #[.int .i64 ro, .int .i64 wi, .int .i64 le, .int .i64 ke] 39)).alloc (.cells #[.slice x.rA x.rs.length x.rc, .slice x.mA x.ms.length x.mc, .slice x.gA x.gs.length x.gc, .int .i64 x.time, .slice x.dA x.ds.length x.dc, .slice x.lA x.ls.length x.lc] 49)) w.heap.size 39 #[.int .i64 ro, .int .i64 wi, .int .i64 le, .int .i64 ke] := (Blk.new w _ _).alloc _
    have R : Blk ((w.alloc (.cells #[.int .i64 ro, .int .i64 wi, .int .i64 le, .int .i64 ke] 39)).alloc (.cells #[.slice x.rA x.rs.length x.rc, .slice x.mA x.ms.length x.mc, .slice x.gA x.gs.length x.gc, .int .i64 x.time, .slice x.dA x.ds.length x.dc, .slice x.lA x.ls.length x.lc] 49)) (w.heap.size + 1) 49 #[.slice x.rA x.rs.length x.rc, .slice x.mA x.ms.length x.mc, .slice x.gA x.gs.length x.gc, .int .i64 x.time, .slice x.dA x.ds.length x.dc, .slice x.lA x.ls.length x.lc] := by have := Blk.new (w.alloc (.cells #[.int .i64 ro, .int .i64 wi, .int .i64 le, .int .i64 ke] 39)) 49 #[.slice x.rA x.rs.length x.rc, .slice x.mA x.ms.length x.mc, .slice x.gA x.gs.length x.gc, .int .i64 x.time, .slice x.dA x.ds.length x.dc, .slice x.lA x.ls.length x.lc]; rwa [World.size_alloc] at this
    go_wp2_with fail
    refine (E1.out _).mono ?_
    rintro e w1 ⟨rfl, g⟩
    replace B := via0 g B
    replace P := P.below g P.lt
    replace R := R.below g R.lt
    clear g
    obtain ⟨u0, u1, u2, u3⟩ := P.row4
    obtain ⟨v0, v1, v2, v3, v4, v5⟩ := R.row6
    have q1 := P.lt
    have q2 := R.lt
    go_wp2_with fail
    refine (E3.out _ B).mono ?_
    rintro e w3 ⟨rfl, g⟩
    replace B := via0 g B
    replace P := P.below g P.lt
    replace R := R.below g R.lt
    clear g u0 u1 u2 u3 v0 v1 v2 v3 v4 v5 q1 q2
    obtain ⟨u0, u1, u2, u3⟩ := P.row4
    obtain ⟨v0, v1, v2, v3, v4, v5⟩ := R.row6
    have q1 := P.lt
    have q2 := R.lt
    go_wp2_with fail
    refine (E4.out _ B).mono ?_
    rintro e w4 ⟨rfl, g⟩
    replace B := via0 g B
    replace P := P.below g P.lt
    replace R := R.below g R.lt
    clear g u0 u1 u2 u3 v0 v1 v2 v3 v4 v5 q1 q2
    obtain ⟨u0, u1, u2, u3⟩ := P.row4
    obtain ⟨v0, v1, v2, v3, v4, v5⟩ := R.row6
    have q1 := P.lt
    have q2 := R.lt
    go_wp2_with fail
    refine (E5.out _ B P).mono ?_
    rintro e w5 ⟨rfl, g⟩
    replace B := via0 g B
    replace P := P.below g P.lt
    replace R := R.below g R.lt
    clear g u0 u1 u2 u3 v0 v1 v2 v3 v4 v5 q1 q2
    obtain ⟨u0, u1, u2, u3⟩ := P.row4
    obtain ⟨v0, v1, v2, v3, v4, v5⟩ := R.row6
    have q1 := P.lt
    have q2 := R.lt
    go_wp2_with fail
    refine (E7.out _ B P).mono ?_
    rintro e w7 ⟨rfl, g⟩
    replace B := via0 g B
    replace P := P.below g P.lt
    replace R := R.below g R.lt
    clear g u0 u1 u2 u3 v0 v1 v2 v3 v4 v5 q1 q2
    obtain ⟨u0, u1, u2, u3⟩ := P.row4
    obtain ⟨v0, v1, v2, v3, v4, v5⟩ := R.row6
    have q1 := P.lt
    have q2 := R.lt
    go_wp2_with fail
    refine (E8.out _).mono ?_
    rintro e w8 ⟨rfl, rfl⟩
    go_wp2_with fail
    refine (E10.out _ B).mono ?_
    rintro e w10 ⟨rfl, rfl⟩
    go_wp2_with fail
    refine (E12.out _ B).mono ?_
    rintro e w12 ⟨rfl, g⟩
    replace B := via0 g B
    replace P := P.below g P.lt
    replace R := R.below g R.lt
    clear g u0 u1 u2 u3 v0 v1 v2 v3 v4 v5 q1 q2
    obtain ⟨u0, u1, u2, u3⟩ := P.row4
    obtain ⟨v0, v1, v2, v3, v4, v5⟩ := R.row6
    have q1 := P.lt
    have q2 := R.lt
    go_wp2
    go_ret
    exact ⟨by rw [hF.out]; rfl, B⟩
  go_enter Tryz.func50, Tryz.ntmps50
  have B : Below w.heap.size w ((w.alloc (.cells #[.int .i64 ro, .int .i64 wi, .int .i64 le, .int .i64 ke] 39)).alloc (.cells #[.slice x.rA x.rs.length x.rc, .slice x.mA x.ms.length x.mc, .slice x.gA x.gs.length x.gc, .int .i64 x.time, .slice x.dA x.ds.length x.dc, .slice x.lA x.ls.length x.lc] 49)) := alloc0 (alloc0 (Below.refl _ _) _) _
  have P : Blk ((w.alloc (.cells #[.int .i64 ro, .int .i64 wi, .int .i64 le, .int .i64 ke] 39)).alloc (.cells #[.slice x.rA x.rs.length x.rc, .slice x.mA x.ms.length x.mc, .slice x.gA x.gs.length x.gc, .int .i64 x.time, .slice x.dA x.ds.length x.dc, .slice x.lA x.ls.length x.lc] 49)) w.heap.size 39 #[.int .i64 ro, .int .i64 wi, .int .i64 le, .int .i64 ke] := (Blk.new w _ _).alloc _
  have R : Blk ((w.alloc (.cells #[.int .i64 ro, .int .i64 wi, .int .i64 le, .int .i64 ke] 39)).alloc (.cells #[.slice x.rA x.rs.length x.rc, .slice x.mA x.ms.length x.mc, .slice x.gA x.gs.length x.gc, .int .i64 x.time, .slice x.dA x.ds.length x.dc, .slice x.lA x.ls.length x.lc] 49)) (w.heap.size + 1) 49 #[.slice x.rA x.rs.length x.rc, .slice x.mA x.ms.length x.mc, .slice x.gA x.gs.length x.gc, .int .i64 x.time, .slice x.dA x.ds.length x.dc, .slice x.lA x.ls.length x.lc] := by have := Blk.new (w.alloc (.cells #[.int .i64 ro, .int .i64 wi, .int .i64 le, .int .i64 ke] 39)) 49 #[.slice x.rA x.rs.length x.rc, .slice x.mA x.ms.length x.mc, .slice x.gA x.gs.length x.gc, .int .i64 x.time, .slice x.dA x.ds.length x.dc, .slice x.lA x.ls.length x.lc]; rwa [World.size_alloc] at this
  go_wp2_with fail
  refine (E1.out _).mono ?_
  rintro e w1 ⟨rfl, g⟩
  replace B := via0 g B
  replace P := P.below g P.lt
  replace R := R.below g R.lt
  clear g
  obtain ⟨u0, u1, u2, u3⟩ := P.row4
  obtain ⟨v0, v1, v2, v3, v4, v5⟩ := R.row6
  have q1 := P.lt
  have q2 := R.lt
  go_wp2_with fail
  refine (E3.out _ B).mono ?_
  rintro e w3 ⟨rfl, g⟩
  replace B := via0 g B
  replace P := P.below g P.lt
  replace R := R.below g R.lt
  clear g u0 u1 u2 u3 v0 v1 v2 v3 v4 v5 q1 q2
  obtain ⟨u0, u1, u2, u3⟩ := P.row4
  obtain ⟨v0, v1, v2, v3, v4, v5⟩ := R.row6
  have q1 := P.lt
  have q2 := R.lt
  go_wp2_with fail
  refine (E4.out _ B).mono ?_
  rintro e w4 ⟨rfl, g⟩
  replace B := via0 g B
  replace P := P.below g P.lt
  replace R := R.below g R.lt
  clear g u0 u1 u2 u3 v0 v1 v2 v3 v4 v5 q1 q2
  obtain ⟨u0, u1, u2, u3⟩ := P.row4
  obtain ⟨v0, v1, v2, v3, v4, v5⟩ := R.row6
  have q1 := P.lt
  have q2 := R.lt
  go_wp2_with fail
  refine (E5.out _ B P).mono ?_
  rintro e w5 ⟨rfl, g⟩
  replace B := via0 g B
  replace P := P.below g P.lt
  replace R := R.below g R.lt
  clear g u0 u1 u2 u3 v0 v1 v2 v3 v4 v5 q1 q2
  obtain ⟨u0, u1, u2, u3⟩ := P.row4
  obtain ⟨v0, v1, v2, v3, v4, v5⟩ := R.row6
  have q1 := P.lt
  have q2 := R.lt
  go_wp2_with fail
  refine (E7.out _ B P).mono ?_
  rintro e w7 ⟨rfl, g⟩
  replace B := via0 g B
  replace P := P.below g P.lt
  replace R := R.below g R.lt
  clear g u0 u1 u2 u3 v0 v1 v2 v3 v4 v5 q1 q2
  obtain ⟨u0, u1, u2, u3⟩ := P.row4
  obtain ⟨v0, v1, v2, v3, v4, v5⟩ := R.row6
  have q1 := P.lt
  have q2 := R.lt
  go_wp2_with fail
  refine (E8.out _).mono ?_
  rintro e w8 ⟨rfl, rfl⟩
  go_wp2_with fail
  refine (E10.out _ B).mono ?_
  rintro e w10 ⟨rfl, rfl⟩
  go_wp2_with fail
  refine (E12.out _ B).mono ?_
  rintro e w12 ⟨rfl, g⟩
  replace B := via0 g B
  replace P := P.below g P.lt
  replace R := R.below g R.lt
  clear g u0 u1 u2 u3 v0 v1 v2 v3 v4 v5 q1 q2
  obtain ⟨u0, u1, u2, u3⟩ := P.row4
  obtain ⟨v0, v1, v2, v3, v4, v5⟩ := R.row6
  have q1 := P.lt
  have q2 := R.lt
  go_wp2
  go_ret
  exact ⟨by rw [hF.out]; rfl, B⟩
end Go.Proofs.YtaefjifcnoiplaaGreat.Gen
