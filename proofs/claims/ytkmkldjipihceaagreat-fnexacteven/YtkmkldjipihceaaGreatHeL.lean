/-
  Lists of what was heard: how they lie, what the laws' sz, to and eq functions of them do; the argument opened. No condition but that there are at most 1048576, and the length that every text has.
-/
import Derived.Test.YtkmkldjipihceaaGreatHTo
set_option linter.unusedVariables false
set_option linter.unusedSimpArgs false
set_option maxRecDepth 100000
set_option maxHeartbeats 8000000
set_option maxRecDepth 100000
set_option maxHeartbeats 8000000
namespace Go.Proofs.YtkmkldjipihceaaGreat.Gen
open ChangeShapes WideShapes ChangeAt RowKit Joins Deep Base
structure He where
  who : Int
  seq : Int
  code : Int
  n : Int
  key : ByteArray
  text : ByteArray
  frm : Int
  at_ : Int
instance : Inhabited He := ⟨⟨0, 0, 0, 0, ⟨#[]⟩, ⟨#[]⟩, 0, 0⟩⟩
instance : Cel He where
  k := 8
  cs x := [.int .i64 x.who, .int .i64 x.seq, .int .i64 x.code, .int .i64 x.n, .string x.key, .string x.text, .int .i64 x.frm, .int .i64 x.at_]
  len _ := rfl
  one x u hu := by simp at hu; rcases hu with rfl | rfl | rfl | rfl | rfl | rfl | rfl | rfl<;>rfl
def He.fit (x : He) : Prop := x.key.size <= 9223372036854775807 /\ x.text.size <= 9223372036854775807
theorem In.getHe {w : World} {b o : Nat} {l : List He} (h : In w b o l) (n : Nat) (hi : n < l.length) :
 w.cell? ⟨b, o + n * 8, none⟩ = some (.int .i64 l[n].who) /\ w.cell? ⟨b, o + n * 8 + 1, none⟩ = some (.int .i64 l[n].seq) /\ w.cell? ⟨b, o + n * 8 + 2, none⟩ = some (.int .i64 l[n].code) /\ w.cell? ⟨b, o + n * 8 + 3, none⟩ = some (.int .i64 l[n].n) /\ w.cell? ⟨b, o + n * 8 + 4, none⟩ = some (.string l[n].key) /\ w.cell? ⟨b, o + n * 8 + 5, none⟩ = some (.string l[n].text) /\ w.cell? ⟨b, o + n * 8 + 6, none⟩ = some (.int .i64 l[n].frm) /\ w.cell? ⟨b, o + n * 8 + 7, none⟩ = some (.int .i64 l[n].at_) :=
 ⟨h.cell n hi (f := 0) rfl, h.cell n hi (f := 1) rfl, h.cell n hi (f := 2) rfl, h.cell n hi (f := 3) rfl, h.cell n hi (f := 4) rfl, h.cell n hi (f := 5) rfl, h.cell n hi (f := 6) rfl, h.cell n hi (f := 7) rfl⟩
theorem infoHe : (Tryz.prog.info? 121).map (fun i => (i.zero, i.size, i.bytes)) = some (some (.agg Qck), 8, 80) := by kernel_rfl
theorem cellsHeL : Tryz.prog.cellsOf 108 = 8 := by kernel_rfl
def szHe (x : He) : Nat := x.key.size + x.text.size
theorem Qhv (who seq code n frm at_ : Int) (key text : ByteArray) (hk : key.size <= 9223372036854775807) (ht : text.size <= 9223372036854775807) (left : Int) (h0 : 0 <= left) (h1 : left <= 1048576) (w : World) :
 Calls Tryz.prog 38 #[.agg (Qao who seq code n key text frm at_), .int .i64 left] w fun e w' => (∃ r : Int, e = .returned (.int .i64 r) /\ (r = -1 ∨ (0 <= r /\ r = left - (key.size : Int) - (text.size : Int)))) /\ Below w.heap.size w w' := by
 go_enter Tryz.func38, Tryz.ntmps38
 go_wp2_with fail
 refine (Qdy _ _ _ _ hk ht left h0 h1 _).mono ?_
 rintro e w1 ⟨⟨r, rfl, hr⟩, g1⟩
 rcases hr with rfl | ⟨hr0, hr1⟩
 . go_wp2
   go_ret
   exact ⟨⟨-1, rfl, .inl rfl⟩, by repeat (first | exact Below.refl _ _ | assumption | refine via0 (by assumption) ?_ | refine Below.drew ?_ | refine Qab ?_ _)⟩
 . have hp : ¬ r < 0 := by omega
   have HR := hidP hr1
   clear hr1
   go_wp2
   go_ret
   exact ⟨⟨r, rfl, .inr ⟨hr0, HR.out⟩⟩, by repeat (first | exact Below.refl _ _ | assumption | refine via0 (by assumption) ?_ | refine Below.drew ?_ | refine Qab ?_ _)⟩
theorem Qhq (who seq code n frm at_ : Int) (key text : ByteArray) (w : World) :
 Calls Tryz.prog 47 #[.agg (Qao who seq code n key text frm at_)] w fun e w' => e = .returned (.agg (Qao who seq code n key text frm at_)) /\ Below w.heap.size w w' := by
 go_enter Tryz.func47, Tryz.ntmps47
 go_wp2_with fail
 refine (Qdw _ _ _ _ _).mono ?_
 rintro e w1 ⟨rfl, g1⟩
 have p0 : Blk w1 w.heap.size 108 (Qao who seq code n key text frm at_) := by
  have := (((Blk.new w 108 (Qao who seq code n key text frm at_)).alloc (.cells Qck 121)).alloc (.cells (Qao who seq 0 0 ⟨#[]⟩ ⟨#[]⟩ 0 0) 121)).below g1 (by simp; omega)
  simpa using this
 have p : Blk w1 (w.heap.size + 1) 121 Qck := by
  have := ((Blk.new (w.alloc (.cells (Qao who seq code n key text frm at_) 108)) 121 Qck).alloc (.cells (Qao who seq 0 0 ⟨#[]⟩ ⟨#[]⟩ 0 0) 121)).below g1 (by simp)
  simpa using this
 have q : Blk w1 (w.heap.size + 1 + 1) 121 (Qao who seq 0 0 ⟨#[]⟩ ⟨#[]⟩ 0 0) := by
  have := (Blk.new ((w.alloc (.cells (Qao who seq code n key text frm at_) 108)).alloc (.cells Qck 121)) 121 (Qao who seq 0 0 ⟨#[]⟩ ⟨#[]⟩ 0 0)).below g1 (by simp)
  simpa using this
 have u0 := p0.cell (i := 0) rfl
 have u1 := p0.cell (i := 1) rfl
 have u2 := p0.cell (i := 2) rfl
 have u3 := p0.cell (i := 3) rfl
 have u4 := p0.cell (i := 4) rfl
 have u5 := p0.cell (i := 5) rfl
 have u6 := p0.cell (i := 6) rfl
 have u7 := p0.cell (i := 7) rfl
 have us3 := p0.cell (i := 2 + 1) rfl
 have us4 := p0.cell (i := 2 + 2) rfl
 have us5 := p0.cell (i := 2 + 3) rfl
 have x0 := p.cell (i := 0) rfl
 have x1 := p.cell (i := 1) rfl
 have x2 := p.cell (i := 2) rfl
 have x3 := p.cell (i := 3) rfl
 have x4 := p.cell (i := 4) rfl
 have x5 := p.cell (i := 5) rfl
 have x6 := p.cell (i := 6) rfl
 have x7 := p.cell (i := 7) rfl
 have y0 := q.cell (i := 0) rfl
 have y1 := q.cell (i := 1) rfl
 have y2 := q.cell (i := 2) rfl
 have y3 := q.cell (i := 3) rfl
 have y4 := q.cell (i := 4) rfl
 have y5 := q.cell (i := 5) rfl
 have y6 := q.cell (i := 6) rfl
 have y7 := q.cell (i := 7) rfl
 have ys3 := q.cell (i := 2 + 1) rfl
 have ys4 := q.cell (i := 2 + 2) rfl
 have ys5 := q.cell (i := 2 + 3) rfl
 have fp := fun i => p.thaw i
 have fq := fun i => q.thaw i
 have g2 : Below w.heap.size w w1 := via0 g1 (by repeat (first | exact Below.refl _ _ | assumption | refine via0 (by assumption) ?_ | refine Below.drew ?_ | refine Qab ?_ _))
 clear g1
 go_wp2
 refine bodyPost_ret (v := .agg (Qao who seq code n key text frm at_)) (by simp [results, Tryz.results47, go_sem, *]) rfl ⟨rfl, ?_⟩
 repeat (first | with_reducible exact g2 | refine Qa5 ?_ (by omega) _)
theorem Qg9 (who seq code n frm at_ : Int) (key text : ByteArray) (w : World) :
 Calls Tryz.prog 65 #[.agg (Qao who seq code n key text frm at_), .agg (Qao who seq code n key text frm at_)] w fun e w' => e = .returned (.bool true) /\ Below w.heap.size w w' := by
 have p0 : Blk ((w.alloc (.cells (Qao who seq code n key text frm at_) 121)).alloc (.cells (Qao who seq code n key text frm at_) 121)) w.heap.size 121 (Qao who seq code n key text frm at_) := (Blk.new w _ _).alloc _
 have p1 : Blk ((w.alloc (.cells (Qao who seq code n key text frm at_) 121)).alloc (.cells (Qao who seq code n key text frm at_) 121)) (w.heap.size + 1) 121 (Qao who seq code n key text frm at_) := by have := Blk.new (w.alloc (.cells (Qao who seq code n key text frm at_) 121)) 121 (Qao who seq code n key text frm at_); rwa [World.size_alloc] at this
 have g0 : Below w.heap.size w ((w.alloc (.cells (Qao who seq code n key text frm at_) 121)).alloc (.cells (Qao who seq code n key text frm at_) 121)) := Qab (Qab (Below.refl _ _) _) _
 have HP := hidP (And.intro p0 (And.intro p1 g0))
 clear p0 p1 g0
 go_enter Tryz.func65, Tryz.ntmps65
 go_wp2_with fail
 refine (Qdm _ _ _ _ _).mono ?_
 rintro e w1 ⟨rfl, g1⟩
 obtain ⟨p0, p1, g0⟩ := HP.out
 replace p0 := p0.below g1 p0.lt
 replace p1 := p1.below g1 p1.lt
 have u0 := p0.cell (i := 0) rfl
 have u1 := p0.cell (i := 1) rfl
 have u2 := p0.cell (i := 2) rfl
 have u3 := p0.cell (i := 3) rfl
 have u4 := p0.cell (i := 4) rfl
 have u5 := p0.cell (i := 5) rfl
 have u6 := p0.cell (i := 6) rfl
 have u7 := p0.cell (i := 7) rfl
 have us3 := p0.cell (i := 2 + 1) rfl
 have us4 := p0.cell (i := 2 + 2) rfl
 have us5 := p0.cell (i := 2 + 3) rfl
 have x0 := p1.cell (i := 0) rfl
 have x1 := p1.cell (i := 1) rfl
 have x2 := p1.cell (i := 2) rfl
 have x3 := p1.cell (i := 3) rfl
 have x4 := p1.cell (i := 4) rfl
 have x5 := p1.cell (i := 5) rfl
 have x6 := p1.cell (i := 6) rfl
 have x7 := p1.cell (i := 7) rfl
 have xs3 := p1.cell (i := 2 + 1) rfl
 have xs4 := p1.cell (i := 2 + 2) rfl
 have xs5 := p1.cell (i := 2 + 3) rfl
 have B0 := hidP (via0 g1 g0)
 clear p0 p1 g0 g1 HP
 go_wp2
 go_ret
 exact ⟨rfl, B0.out⟩
theorem Qgn (A : Option Addr) (cap : Nat) (l : List He) (hl : l.length <= 9223372036854775807) (hr : ∀ x ∈ l, x.fit) (left : Int) (h0 : 0 <= left) (h1 : left <= 1048576) (w : World) (hA : At w A l) :
 Calls Tryz.prog 16 #[.slice A l.length cap, .int .i64 left] w fun e w' => (∃ r : Int, e = .returned (.int .i64 r) /\ (r < 0 ∨ (0 <= r /\ r = left - (l.length : Int) - (Qat szHe l : Int)))) /\ Below w.heap.size w w' := by
 have HA := hidP hA
 have Hr := hidP hr
 clear hA hr
 by_cases h : left < (l.length : Int)
 . have g : left - (l.length : Int) < 0 := by omega
   go_enter Tryz.func16, Tryz.ntmps16
   go_wp2
   go_ret
   exact ⟨⟨-1, rfl, .inl (by omega)⟩, Below.refl _ _⟩
 . have g : ¬ left - (l.length : Int) < 0 := by omega
   go_enter Tryz.func16, Tryz.ntmps16
   go_wp2
   go_loopw [1, 5] (fun q i w' => ∃ (n : Nat) (z : Int), i = .int .i64 (n : Int) /\ q = .int .i64 z /\ n <= l.length /\ 0 <= z /\ z <= 1048576 /\ Hid (z = left - (l.length : Int) - (Qat szHe (l.take n) : Int)) /\ Below w.heap.size w w') (fun _ i _ => l.length - (intOf i).toNat)
   case atStart => exact ⟨0, _, rfl, rfl, by omega, by omega, by omega, by simp [Hid, Qat], Below.refl _ _⟩
   case round =>
    obtain ⟨n, z, rfl, rfl, hn, hz0, hz1, hz, hbl⟩ := hrel
    by_cases hlt : n < l.length
    . obtain ⟨b, o, rfl, hbs, hIn⟩ : ∃ b o, A = some ⟨b, o, none⟩ /\ b < w.heap.size /\ In w b o l := by
       rcases HA.out with h | h
       . subst h; simp at hlt
       . exact h
      obtain ⟨c0, c1, c2, c3, c4, c5, c6, c7⟩ := (hIn.below hbs hbl).getHe n hlt
      have hms := Hr.out _ (List.getElem_mem hlt)
      have hsn := hidP (Qbl szHe l n hlt)
      go_wp2_with fail
      refine (Qhv _ _ _ _ _ _ _ _ hms.1 hms.2 z hz0 hz1 _).mono ?_
      rintro e w1 ⟨⟨r, rfl, hr⟩, g1⟩
      rcases hr with rfl | ⟨hr0, hr1⟩
      . go_wp2
        go_ret
        exact ⟨⟨-1, rfl, .inl (by omega)⟩, via0 g1 hbl⟩
      . have hp : ¬ r < 0 := by omega
        have HR1 := hidP hr1
        clear hr1
        go_wp2
        have hz' := hz.out
        have hsn' := hsn.out
        have hr' := HR1.out
        exact ⟨⟨n + 1, r, by go_num, rfl, by omega, by omega, by omega, by show _ = _; rw [hsn', hr', hz']; simp only [szHe]; omega, via0 g1 hbl⟩, by simp [intOf]; omega⟩
    . have e : l.take n = l := List.take_of_length_le (by omega)
      go_wp2
      go_ret
      have hz' := hz.out
      rw [e] at hz'
      exact ⟨⟨z, rfl, .inr ⟨hz0, hz'⟩⟩, hbl⟩
theorem Qgi (A : Option Addr) (cap : Nat) (l : List He) (hl : l.length <= 1048576) (w : World) (hA : At w A l) :
 Calls Tryz.prog 23 #[.slice A l.length cap] w fun e w' => e = .returned (.slice (some ⟨w.heap.size, 0, none⟩) l.length l.length) /\ Below w.heap.size w w' /\ w.heap.size < w'.heap.size /\ In w' w.heap.size 0 l /\ w'.there w.heap.size 0 (l.length * 8) := by
 have HA := hidP hA
 clear hA
 have hmk := Qbg (P := Tryz.prog) Tryz.underlying37 infoHe (by omega) l.length hl
 go_enter Tryz.func23, Tryz.ntmps23
 go_wp2
 go_loopw [4] (fun i w' => ∃ (n : Nat), i = .int .i64 (n : Int) /\ n <= l.length /\ Below w.heap.size w w' /\ w.heap.size < w'.heap.size /\ Hid (In w' w.heap.size 0 (l.take n)) /\ Hid (w'.there w.heap.size 0 (l.length * 8))) (fun i _ => l.length - (intOf i).toNat)
 case atStart => exact ⟨0, rfl, by omega, by repeat (first | exact Below.refl _ _ | assumption | refine via0 (by assumption) ?_ | refine Below.drew ?_ | refine Qab ?_ _), by simp, In.nil _ _ _, Qa0 w _ _ _ _⟩
 case round =>
  obtain ⟨n, rfl, hn, hbl, hsz, hin, hth⟩ := hrel
  by_cases hlt : n < l.length
  . obtain ⟨b, o, rfl, hbs, hIn⟩ : ∃ b o, A = some ⟨b, o, none⟩ /\ b < w.heap.size /\ In w b o l := by
     rcases HA.out with h | h
     . subst h; simp at hlt
     . exact h
    obtain ⟨c0, c1, c2, c3, c4, c5, c6, c7⟩ := (hIn.below hbs hbl).getHe n hlt
    obtain ⟨⟨v0, d0⟩, f0⟩ := Qah (f := 0) hth.out hlt (by omega)
    obtain ⟨⟨v1, d1⟩, f1⟩ := Qah (f := 1) hth.out hlt (by omega)
    obtain ⟨⟨v2, d2⟩, f2⟩ := Qah (f := 2) hth.out hlt (by omega)
    obtain ⟨⟨v3, d3⟩, f3⟩ := Qah (f := 3) hth.out hlt (by omega)
    obtain ⟨⟨v4, d4⟩, f4⟩ := Qah (f := 4) hth.out hlt (by omega)
    obtain ⟨⟨v5, d5⟩, f5⟩ := Qah (f := 5) hth.out hlt (by omega)
    obtain ⟨⟨v6, d6⟩, f6⟩ := Qah (f := 6) hth.out hlt (by omega)
    obtain ⟨⟨v7, d7⟩, f7⟩ := Qah (f := 7) hth.out hlt (by omega)
    simp only [Nat.zero_add, Nat.add_zero] at d0 f0 d1 f1 d2 f2 d3 f3 d4 f4 d5 f5 d6 f6 d7 f7
    go_wp2_with (go_at_call 47; refine (Qhq _ _ _ _ _ _ _ _ _).mono ?_; rintro e w1 ⟨rfl, g1⟩; obtain ⟨k1, m1⟩ := Qax g1; have s1 := g1.size)
    have hst := Qcb (hin.out.below hsz g1) (Qaz hth.out hsz g1) hlt
    refine ⟨⟨n + 1, by go_num, by omega, ?_, by simp; omega, hst.1, hst.2⟩, by simp [intOf]; omega⟩
    exact ((((((((via0 g1 hbl).setCell (Nat.le_refl _) _).setCell (Nat.le_refl _) _).setCell (Nat.le_refl _) _).setCell (Nat.le_refl _) _).setCell (Nat.le_refl _) _).setCell (Nat.le_refl _) _).setCell (Nat.le_refl _) _).setCell (Nat.le_refl _) _
  . have e : l.take n = l := List.take_of_length_le (by omega)
    go_wp2
    go_ret
    exact ⟨rfl, hbl, hsz, by have := hin.out; rwa [e] at this, hth.out⟩
theorem Qf6 (A A' : Option Addr) (cap cap' : Nat) (l : List He) (hl : l.length <= 9223372036854775807) (w : World) (hA : At w A l) (hA' : At w A' l) :
 Calls Tryz.prog 31 #[.slice A l.length cap, .slice A' l.length cap'] w fun e w' => e = .returned (.bool true) /\ Below w.heap.size w w' := by
 have HA := hidP hA
 have HA' := hidP hA'
 clear hA hA'
 go_enter Tryz.func31, Tryz.ntmps31
 go_wp2
 go_loopw [5] (fun i w' => ∃ (n : Nat), i = .int .i64 (n : Int) /\ n <= l.length /\ Below w.heap.size w w') (fun i _ => l.length - (intOf i).toNat)
 case atStart => exact ⟨0, rfl, by omega, Below.refl _ _⟩
 case round =>
  obtain ⟨n, rfl, hn, hbl⟩ := hrel
  by_cases hlt : n < l.length
  . obtain ⟨b, o, rfl, hbs, hin⟩ : ∃ b o, A = some ⟨b, o, none⟩ /\ b < w.heap.size /\ In w b o l := by
     rcases HA.out with h | h
     . subst h; simp at hlt
     . exact h
    obtain ⟨b', o', rfl, hbs', hin'⟩ : ∃ b o, A' = some ⟨b, o, none⟩ /\ b < w.heap.size /\ In w b o l := by
     rcases HA'.out with h | h
     . subst h; simp at hlt
     . exact h
    obtain ⟨c0, c1, c2, c3, c4, c5, c6, c7⟩ := (hin.below hbs hbl).getHe n hlt
    obtain ⟨d0, d1, d2, d3, d4, d5, d6, d7⟩ := (hin'.below hbs' hbl).getHe n hlt
    have hb1 : b < wr.heap.size := Nat.lt_of_lt_of_le hbs hbl.size
    have hb2 : b' < wr.heap.size := Nat.lt_of_lt_of_le hbs' hbl.size
    have hi0 : (0 : Int) <= (n : Int) := by omega
    have hi1 : (n : Int) < (l.length : Int) := by omega
    go_wp2
    go_region_held3 (fun w' => w'.cell? ⟨b, o + n * 8, none⟩ = some (.int .i64 l[n].who) /\ w'.cell? ⟨b, o + n * 8 + 1, none⟩ = some (.int .i64 l[n].seq) /\ w'.cell? ⟨b, o + n * 8 + 2, none⟩ = some (.int .i64 l[n].code) /\ w'.cell? ⟨b, o + n * 8 + 3, none⟩ = some (.int .i64 l[n].n) /\ w'.cell? ⟨b, o + n * 8 + 4, none⟩ = some (.string l[n].key) /\ w'.cell? ⟨b, o + n * 8 + 5, none⟩ = some (.string l[n].text) /\ w'.cell? ⟨b, o + n * 8 + 6, none⟩ = some (.int .i64 l[n].frm) /\ w'.cell? ⟨b, o + n * 8 + 7, none⟩ = some (.int .i64 l[n].at_) /\ w'.cell? ⟨b', o' + n * 8, none⟩ = some (.int .i64 l[n].who) /\ w'.cell? ⟨b', o' + n * 8 + 1, none⟩ = some (.int .i64 l[n].seq) /\ w'.cell? ⟨b', o' + n * 8 + 2, none⟩ = some (.int .i64 l[n].code) /\ w'.cell? ⟨b', o' + n * 8 + 3, none⟩ = some (.int .i64 l[n].n) /\ w'.cell? ⟨b', o' + n * 8 + 4, none⟩ = some (.string l[n].key) /\ w'.cell? ⟨b', o' + n * 8 + 5, none⟩ = some (.string l[n].text) /\ w'.cell? ⟨b', o' + n * 8 + 6, none⟩ = some (.int .i64 l[n].frm) /\ w'.cell? ⟨b', o' + n * 8 + 7, none⟩ = some (.int .i64 l[n].at_) /\ wr.heap.size <= w'.heap.size)
     (first | (go_split_ands; refine ⟨?_, ?_, ?_, ?_, ?_, ?_, ?_, ?_, ?_, ?_, ?_, ?_, ?_, ?_, ?_, ?_, ?_⟩<;>first | assumption | exact (k1 _ _ hb1).trans (by assumption) | exact (k1 _ _ hb2).trans (by assumption) | exact s1 | (simp; done)) | go_keep)
     (first
      | (go_at_call 65; refine (Qg9 _ _ _ _ _ _ _ _ _).mono ?_; rintro e w1 ⟨rfl, g1⟩; obtain ⟨k1, m1⟩ := Qax g1; have s1 := g1.size))
    all_goals
     go_wp2
     exact ⟨⟨n + 1, by go_num, by omega, via0 g1 hbl.drew⟩, by simp [intOf]; omega⟩
  . go_wp2
    go_ret
    exact ⟨rfl, hbl⟩
theorem openHe {H : Type} {enc : TypeId × Value -> H} {w : World} {base n : Nat} {spare : Nat -> Bool} {held : Bool} {a : Addr} {cs : List Value} {y : DataW H × List MemPlace}
 (h1 : w.cells? base a 8 = some cs) (h2 : DataW.trod enc Tryz.prog w base spare held n 108 cs = some y) :
 ∃ x : He, x.fit /\ a.spot = none /\ a.block < w.heap.size /\ ∀ j v, (Cel.cs x)[j]? = some v -> w.cell? ⟨a.block, a.off + j, none⟩ = some v := by
 obtain ⟨_, hlen, hc⟩ := World.cells?_some h1
 match cs, hlen with
 | [c0, c1, c2, c3, c4, c5, c6, c7], _ =>
  obtain ⟨m, hp⟩ := Qbx Tryz.underlying108 h2
  obtain ⟨yg0, g0⟩ := hp 0 _ rfl
  simp only [zG] at g0
  rw [show Tryz.prog.cellsOf 3 = 1 by kernel_rfl] at g0
  simp only [List.drop_succ_cons, List.drop_zero, List.take_succ_cons, List.take_zero, List.take_nil] at g0
  obtain ⟨yg1, g1⟩ := hp 1 _ rfl
  simp only [zG] at g1
  rw [show Tryz.prog.cellsOf 3 = 1 by kernel_rfl] at g1
  simp only [List.drop_succ_cons, List.drop_zero, List.take_succ_cons, List.take_zero, List.take_nil] at g1
  obtain ⟨yga, ga⟩ := hp 2 _ rfl
  simp only [zG] at ga
  rw [show Tryz.prog.cellsOf 106 = 4 by kernel_rfl] at ga
  simp only [List.drop_succ_cons, List.drop_zero, List.take_succ_cons, List.take_zero, List.take_nil] at ga
  obtain ⟨yg6, g6⟩ := hp 3 _ rfl
  simp only [zG] at g6
  rw [show Tryz.prog.cellsOf 3 = 1 by kernel_rfl] at g6
  simp only [List.drop_succ_cons, List.drop_zero, List.take_succ_cons, List.take_zero, List.take_nil] at g6
  obtain ⟨yg7, g7⟩ := hp 4 _ rfl
  simp only [zG] at g7
  rw [show Tryz.prog.cellsOf 3 = 1 by kernel_rfl] at g7
  simp only [List.drop_succ_cons, List.drop_zero, List.take_succ_cons, List.take_zero, List.take_nil] at g7
  obtain ⟨m2, hp2⟩ := Qbx Tryz.underlying106 ga
  obtain ⟨yg2, g2⟩ := hp2 0 _ rfl
  simp only [zG] at g2
  rw [show Tryz.prog.cellsOf 3 = 1 by kernel_rfl] at g2
  simp only [List.drop_succ_cons, List.drop_zero, List.take_succ_cons, List.take_zero, List.take_nil] at g2
  obtain ⟨yg3, g3⟩ := hp2 1 _ rfl
  simp only [zG] at g3
  rw [show Tryz.prog.cellsOf 3 = 1 by kernel_rfl] at g3
  simp only [List.drop_succ_cons, List.drop_zero, List.take_succ_cons, List.take_zero, List.take_nil] at g3
  obtain ⟨yg4, g4⟩ := hp2 2 _ rfl
  simp only [zG] at g4
  rw [show Tryz.prog.cellsOf 9 = 1 by kernel_rfl] at g4
  simp only [List.drop_succ_cons, List.drop_zero, List.take_succ_cons, List.take_zero, List.take_nil] at g4
  obtain ⟨yg5, g5⟩ := hp2 3 _ rfl
  simp only [zG] at g5
  rw [show Tryz.prog.cellsOf 9 = 1 by kernel_rfl] at g5
  simp only [List.drop_succ_cons, List.drop_zero, List.take_succ_cons, List.take_zero, List.take_nil] at g5
  obtain ⟨v0, e0, _, w0⟩ := DataW.trod_int Tryz.underlying3 g0
  obtain ⟨v1, e1, _, w1⟩ := DataW.trod_int Tryz.underlying3 g1
  obtain ⟨v2, e2, _, w2⟩ := DataW.trod_int Tryz.underlying3 g2
  obtain ⟨v3, e3, _, w3⟩ := DataW.trod_int Tryz.underlying3 g3
  obtain ⟨v4, e4, _, w4⟩ := DataW.trod_string Tryz.underlying9 g4
  obtain ⟨v5, e5, _, w5⟩ := DataW.trod_string Tryz.underlying9 g5
  obtain ⟨v6, e6, _, w6⟩ := DataW.trod_int Tryz.underlying3 g6
  obtain ⟨v7, e7, _, w7⟩ := DataW.trod_int Tryz.underlying3 g7
  simp at e0 e1 e2 e3 e4 e5 e6 e7
  subst e0 e1 e2 e3 e4 e5 e6 e7
  have q0 := hc 0 (by omega)
  have hsp : a.spot = none := by
   cases hs : a.spot with
   | none => rfl
   | some s => exfalso; simp [Addr.add, World.cell?, hs] at q0; split at q0<;>simp at q0
  have hlt : a.block < w.heap.size := by
   rw [show a.add 0 = a from rfl] at q0
   unfold World.cell? at q0
   cases hh : w.heap[a.block]? with
   | none => simp [hh] at q0
   | some ob => exact (Array.getElem?_eq_some_iff.1 hh).1
  refine ⟨⟨v0, v1, v2, v3, v4, v5, v6, v7⟩, ⟨by simpa [maxLen] using w4, by simpa [maxLen] using w5⟩, hsp, hlt, ?_⟩
  intro j v hv
  have hj : j < 8 := (List.getElem?_eq_some_iff.1 hv).1
  have q := hc j hj
  have e : a.add j = ⟨a.block, a.off + j, none⟩ := by
   obtain ⟨b, o, s⟩ := a
   simp only at hsp
   subst hsp
   exact Addr.add_mid b o j
  rw [e] at q
  rw [q]
  exact hv
theorem openHeardS {H : Type} {enc : TypeId × Value -> H} {W : World} {base n : Nat} {spare : Nat -> Bool} {held : Bool} {c : Value} {y : DataW H × List MemPlace}
 (g : DataW.trod enc Tryz.prog W base spare held n 28 [c] = some y) :
 ∃ (A : Option Addr) (cap : Nat) (l : List He), c = .slice A l.length cap /\ l.length <= 9223372036854775807 /\ (∀ x ∈ l, x.fit) /\ At W A l := by
 rcases open_slice Tryz.underlying28 g with ⟨e2, _⟩ | ⟨a, len, cap, m, n', D, Pl, e2, _, hl, hm, hmm, _, hx⟩
 . simp at e2
   subst e2
   exact ⟨none, 0, [], rfl, by simp, by simp, .inl rfl⟩
 . simp at e2
   subst e2
   have hle : len <= m := by rw [hmm]; split<;>omega
   rw [cellsHeL] at hx
   obtain ⟨X, hX⟩ := choose_lt (α := He) (p := fun i x => x.fit /\ (a.add (i * 8)).spot = none /\ (a.add (i * 8)).block < W.heap.size /\ ∀ j v, (Cel.cs x)[j]? = some v -> W.cell? ⟨(a.add (i * 8)).block, (a.add (i * 8)).off + j, none⟩ = some v)
    (n := len) (fun i hi => by obtain ⟨cs', h1, h2⟩ := hx i (by omega); exact openHe h1 h2)
   obtain ⟨l, rfl, hR, hat⟩ := Qdo (α := He) (by decide) (R := He.fit) hX
   exact ⟨some a, cap, l, rfl, by simp [maxLen] at hm ⊢; omega, hR, hat⟩
end Go.Proofs.YtkmkldjipihceaaGreat.Gen
