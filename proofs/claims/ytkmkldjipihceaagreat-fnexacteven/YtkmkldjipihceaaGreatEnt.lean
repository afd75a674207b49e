/-
  Lists of entries: how they lie, what the laws' to, sz, eq, mark and held functions of them do; the argument opened. No condition but that there are at most 1048576, and the length that every text has.
-/
import Derived.Test.YtkmkldjipihceaaGreatRecs
import Derived.Test.YtkmkldjipihceaaGreatInts
set_option linter.unusedVariables false
set_option linter.unusedSimpArgs false
set_option maxRecDepth 100000
set_option maxHeartbeats 8000000
set_option maxRecDepth 100000
set_option maxHeartbeats 8000000
namespace Go.Proofs.YtkmkldjipihceaaGreat.Gen
open ChangeShapes WideShapes ChangeAt RowKit Joins Deep Base
structure En where
  term : Int
  who : Int
  seq : Int
  op : Int
  a : Int
  b : Int
  c : Int
  key : ByteArray
  text : ByteArray
instance : Inhabited En := ⟨⟨0, 0, 0, 0, 0, 0, 0, ⟨#[]⟩, ⟨#[]⟩⟩⟩
instance : Cel En where
  k := 9
  cs x := [.int .i64 x.term, .int .i64 x.who, .int .i64 x.seq, .int .i64 x.op, .int .i64 x.a, .int .i64 x.b, .int .i64 x.c, .string x.key, .string x.text]
  len _ := rfl
  one x u hu := by simp at hu; rcases hu with rfl | rfl | rfl | rfl | rfl | rfl | rfl | rfl | rfl<;>rfl
def En.fit (x : En) : Prop := x.key.size <= 9223372036854775807 /\ x.text.size <= 9223372036854775807
def En.right (x : En) : Prop := I64 x.term /\ I64 x.who /\ I64 x.seq /\ I64 x.op /\ I64 x.a /\ I64 x.b /\ I64 x.c /\ x.fit
theorem En.right.fit {x : En} (h : x.right) : x.fit := h.2.2.2.2.2.2.2
theorem In.getEn {w : World} {b o : Nat} {l : List En} (h : In w b o l) (n : Nat) (hi : n < l.length) :
 w.cell? ⟨b, o + n * 9, none⟩ = some (.int .i64 l[n].term) /\ w.cell? ⟨b, o + n * 9 + 1, none⟩ = some (.int .i64 l[n].who) /\ w.cell? ⟨b, o + n * 9 + 2, none⟩ = some (.int .i64 l[n].seq) /\ w.cell? ⟨b, o + n * 9 + 3, none⟩ = some (.int .i64 l[n].op) /\ w.cell? ⟨b, o + n * 9 + 4, none⟩ = some (.int .i64 l[n].a) /\ w.cell? ⟨b, o + n * 9 + 5, none⟩ = some (.int .i64 l[n].b) /\ w.cell? ⟨b, o + n * 9 + 6, none⟩ = some (.int .i64 l[n].c) /\ w.cell? ⟨b, o + n * 9 + 7, none⟩ = some (.string l[n].key) /\ w.cell? ⟨b, o + n * 9 + 8, none⟩ = some (.string l[n].text) :=
 ⟨h.cell n hi (f := 0) rfl, h.cell n hi (f := 1) rfl, h.cell n hi (f := 2) rfl, h.cell n hi (f := 3) rfl, h.cell n hi (f := 4) rfl, h.cell n hi (f := 5) rfl, h.cell n hi (f := 6) rfl, h.cell n hi (f := 7) rfl, h.cell n hi (f := 8) rfl⟩
theorem infoEn : (Tryz.prog.info? 161).map (fun i => (i.zero, i.size, i.bytes)) = some (some (.agg Qcn), 9, 88) := by kernel_rfl
def szEn (x : En) : Nat := x.key.size + x.text.size
theorem szCmd_at (who seq op a b c : Int) (key text : ByteArray) (hk : key.size <= 9223372036854775807) (ht : text.size <= 9223372036854775807) (left : Int) (h0 : 0 <= left) (h1 : left <= 1048576) (w : World) :
 Calls Tryz.prog 37 #[.agg (Qan who seq op a b c key text), .int .i64 left] w fun e w' => (∃ r : Int, e = .returned (.int .i64 r) /\ (r = -1 ∨ (0 <= r /\ r = left - (key.size : Int) - (text.size : Int)))) /\ Below w.heap.size w w' := by
 by_cases g1 : left - (key.size : Int) < 0
 . go_enter Tryz.func37, Tryz.ntmps37
   go_wp2
   go_ret
   exact ⟨⟨-1, rfl, .inl rfl⟩, by repeat (first | exact Below.refl _ _ | assumption | refine via0 (by assumption) ?_ | refine Below.drew ?_ | refine Qab ?_ _)⟩
 . by_cases g2 : left - (key.size : Int) - (text.size : Int) < 0
   . go_enter Tryz.func37, Tryz.ntmps37
     go_wp2
     go_ret
     exact ⟨⟨-1, rfl, .inl rfl⟩, by repeat (first | exact Below.refl _ _ | assumption | refine via0 (by assumption) ?_ | refine Below.drew ?_ | refine Qab ?_ _)⟩
   . go_enter Tryz.func37, Tryz.ntmps37
     go_wp2
     go_ret
     exact ⟨⟨_, rfl, .inr ⟨by omega, rfl⟩⟩, by repeat (first | exact Below.refl _ _ | assumption | refine via0 (by assumption) ?_ | refine Below.drew ?_ | refine Qab ?_ _)⟩
theorem Qhw (term who seq op a b c : Int) (key text : ByteArray) (hk : key.size <= 9223372036854775807) (ht : text.size <= 9223372036854775807) (left : Int) (h0 : 0 <= left) (h1 : left <= 1048576) (w : World) :
 Calls Tryz.prog 113 #[.agg (Qav term who seq op a b c key text), .int .i64 left] w fun e w' => (∃ r : Int, e = .returned (.int .i64 r) /\ (r = -1 ∨ (0 <= r /\ r = left - (key.size : Int) - (text.size : Int)))) /\ Below w.heap.size w w' := by
 go_enter Tryz.func113, Tryz.ntmps113
 go_wp2_with fail
 refine (szCmd_at _ _ _ _ _ _ _ _ hk ht left h0 h1 _).mono ?_
 rintro e w1 ⟨⟨r, rfl, hr⟩, g1⟩
 rcases hr with rfl | ⟨hr0, hr1⟩
 . go_wp2
   go_ret
   exact ⟨⟨-1, rfl, .inl rfl⟩, by repeat (first | exact Below.refl _ _ | assumption | refine via0 (by assumption) ?_ | refine Below.drew ?_ | refine Qab ?_ _)⟩
 . have hp : ¬ r < 0 := by omega
   have HR := hidP hr1
   clear hr1
   go_wp2
   go_ret
   exact ⟨⟨r, rfl, .inr ⟨hr0, HR.out⟩⟩, by repeat (first | exact Below.refl _ _ | assumption | refine via0 (by assumption) ?_ | refine Below.drew ?_ | refine Qab ?_ _)⟩
theorem Qdx (A : Option Addr) (cap : Nat) (l : List En) (hl : l.length <= 9223372036854775807) (hr : ∀ x ∈ l, x.fit) (left : Int) (h0 : 0 <= left) (h1 : left <= 1048576) (w : World) (hA : At w A l) :
 Calls Tryz.prog 75 #[.slice A l.length cap, .int .i64 left] w fun e w' => (∃ r : Int, e = .returned (.int .i64 r) /\ (r < 0 ∨ (0 <= r /\ r = left - (l.length : Int) - (Qat szEn l : Int)))) /\ Below w.heap.size w w' := by
 have HA := hidP hA
 have Hr := hidP hr
 clear hA hr
 by_cases h : left < (l.length : Int)
 . have g : left - (l.length : Int) < 0 := by omega
   go_enter Tryz.func75, Tryz.ntmps75
   go_wp2
   go_ret
   exact ⟨⟨-1, rfl, .inl (by omega)⟩, Below.refl _ _⟩
 . have g : ¬ left - (l.length : Int) < 0 := by omega
   go_enter Tryz.func75, Tryz.ntmps75
   go_wp2
   go_loopw [1, 5] (fun q i w' => ∃ (n : Nat) (z : Int), i = .int .i64 (n : Int) /\ q = .int .i64 z /\ n <= l.length /\ 0 <= z /\ z <= 1048576 /\ Hid (z = left - (l.length : Int) - (Qat szEn (l.take n) : Int)) /\ Below w.heap.size w w') (fun _ i _ => l.length - (intOf i).toNat)
   case atStart => exact ⟨0, _, rfl, rfl, by omega, by omega, by omega, by simp [Hid, Qat], Below.refl _ _⟩
   case round =>
    obtain ⟨n, z, rfl, rfl, hn, hz0, hz1, hz, hbl⟩ := hrel
    by_cases hlt : n < l.length
    . obtain ⟨b, o, rfl, hbs, hIn⟩ : ∃ b o, A = some ⟨b, o, none⟩ /\ b < w.heap.size /\ In w b o l := by
       rcases HA.out with h | h
       . subst h; simp at hlt
       . exact h
      obtain ⟨c0, c1, c2, c3, c4, c5, c6, c7, c8⟩ := (hIn.below hbs hbl).getEn n hlt
      have hms := Hr.out _ (List.getElem_mem hlt)
      have hsn := hidP (Qbl szEn l n hlt)
      go_wp2_with fail
      refine (Qhw _ _ _ _ _ _ _ _ _ hms.1 hms.2 z hz0 hz1 _).mono ?_
      rintro e w1 ⟨⟨r, rfl, hr⟩, g1⟩
      rcases hr with rfl | ⟨hr0, hr1⟩
      . go_wp2
        go_ret
        exact ⟨⟨-1, rfl, .inl (by omega)⟩, via0 g1 hbl⟩
      . have hp : ¬ r < 0 := by omega
        have HR1 := hidP hr1
        clear hr1
        go_wp2
        have hz' := hz.out
        have hsn' := hsn.out
        have hr' := HR1.out
        exact ⟨⟨n + 1, r, by go_num, rfl, by omega, by omega, by omega, by show _ = _; rw [hsn', hr', hz']; simp only [szEn]; omega, via0 g1 hbl⟩, by simp [intOf]; omega⟩
    . have e : l.take n = l := List.take_of_length_le (by omega)
      go_wp2
      go_ret
      have hz' := hz.out
      rw [e] at hz'
      exact ⟨⟨z, rfl, .inr ⟨hz0, hz'⟩⟩, hbl⟩
theorem Qhs (term who seq op a b c : Int) (key text : ByteArray) (w : World) :
 Calls Tryz.prog 124 #[.agg (Qav term who seq op a b c key text)] w fun e w' => e = .returned (.agg (Qav term who seq op a b c key text)) /\ Below w.heap.size w w' := by
 go_enter Tryz.func124, Tryz.ntmps124
 go_wp2_with fail
 refine (Cmd.to_any _ _ _ _ _ _ _ _ _).mono ?_
 rintro e w1 ⟨rfl, g1⟩
 have p : Blk w1 (w.heap.size + 1) 161 Qcn := by
  have := ((Blk.new (w.alloc (.cells (Qav term who seq op a b c key text) 177)) 161 Qcn).alloc (.cells (Qav term 0 0 0 0 0 0 ⟨#[]⟩ ⟨#[]⟩) 161)).below g1 (by simp)
  simpa using this
 have q : Blk w1 (w.heap.size + 1 + 1) 161 (Qav term 0 0 0 0 0 0 ⟨#[]⟩ ⟨#[]⟩) := by
  have := (Blk.new ((w.alloc (.cells (Qav term who seq op a b c key text) 177)).alloc (.cells Qcn 161)) 161 (Qav term 0 0 0 0 0 0 ⟨#[]⟩ ⟨#[]⟩)).below g1 (by simp)
  simpa using this
 have x0 := p.cell (i := 0) rfl
 have x1 := p.cell (i := 1) rfl
 have x2 := p.cell (i := 2) rfl
 have x3 := p.cell (i := 3) rfl
 have x4 := p.cell (i := 4) rfl
 have x5 := p.cell (i := 5) rfl
 have x6 := p.cell (i := 6) rfl
 have x7 := p.cell (i := 7) rfl
 have x8 := p.cell (i := 8) rfl
 have y0 := q.cell (i := 0) rfl
 have y1 := q.cell (i := 1) rfl
 have y2 := q.cell (i := 2) rfl
 have y3 := q.cell (i := 3) rfl
 have y4 := q.cell (i := 4) rfl
 have y5 := q.cell (i := 5) rfl
 have y6 := q.cell (i := 6) rfl
 have y7 := q.cell (i := 7) rfl
 have y8 := q.cell (i := 8) rfl
 have fp := fun i => p.thaw i
 have fq := fun i => q.thaw i
 have g2 : Below w.heap.size w w1 := via0 g1 (by repeat (first | exact Below.refl _ _ | assumption | refine via0 (by assumption) ?_ | refine Below.drew ?_ | refine Qab ?_ _))
 clear g1
 go_wp2
 refine bodyPost_ret (v := .agg (Qav term who seq op a b c key text)) (by simp [results, Tryz.results124, go_sem, *]) rfl ⟨rfl, ?_⟩
 repeat (first | with_reducible exact g2 | refine Qa5 ?_ (by omega) _)
theorem Qdv (A : Option Addr) (cap : Nat) (l : List En) (hl : l.length <= 1048576) (w : World) (hA : At w A l) :
 Calls Tryz.prog 87 #[.slice A l.length cap] w fun e w' => e = .returned (.slice (some ⟨w.heap.size, 0, none⟩) l.length l.length) /\ Below w.heap.size w w' /\ w.heap.size < w'.heap.size /\ In w' w.heap.size 0 l /\ w'.there w.heap.size 0 (l.length * 9) := by
 have HA := hidP hA
 clear hA
 have hmk := Qbg (P := Tryz.prog) Tryz.underlying51 infoEn (by omega) l.length hl
 go_enter Tryz.func87, Tryz.ntmps87
 go_wp2
 go_loopw [4] (fun i w' => ∃ (n : Nat), i = .int .i64 (n : Int) /\ n <= l.length /\ Below w.heap.size w w' /\ w.heap.size < w'.heap.size /\ Hid (In w' w.heap.size 0 (l.take n)) /\ Hid (w'.there w.heap.size 0 (l.length * 9))) (fun i _ => l.length - (intOf i).toNat)
 case atStart => exact ⟨0, rfl, by omega, by repeat (first | exact Below.refl _ _ | assumption | refine via0 (by assumption) ?_ | refine Below.drew ?_ | refine Qab ?_ _), by simp, In.nil _ _ _, Qa0 w _ _ _ _⟩
 case round =>
  obtain ⟨n, rfl, hn, hbl, hsz, hin, hth⟩ := hrel
  by_cases hlt : n < l.length
  . obtain ⟨b, o, rfl, hbs, hIn⟩ : ∃ b o, A = some ⟨b, o, none⟩ /\ b < w.heap.size /\ In w b o l := by
     rcases HA.out with h | h
     . subst h; simp at hlt
     . exact h
    obtain ⟨c0, c1, c2, c3, c4, c5, c6, c7, c8⟩ := (hIn.below hbs hbl).getEn n hlt
    obtain ⟨⟨v0, d0⟩, f0⟩ := Qah (f := 0) hth.out hlt (by omega)
    obtain ⟨⟨v1, d1⟩, f1⟩ := Qah (f := 1) hth.out hlt (by omega)
    obtain ⟨⟨v2, d2⟩, f2⟩ := Qah (f := 2) hth.out hlt (by omega)
    obtain ⟨⟨v3, d3⟩, f3⟩ := Qah (f := 3) hth.out hlt (by omega)
    obtain ⟨⟨v4, d4⟩, f4⟩ := Qah (f := 4) hth.out hlt (by omega)
    obtain ⟨⟨v5, d5⟩, f5⟩ := Qah (f := 5) hth.out hlt (by omega)
    obtain ⟨⟨v6, d6⟩, f6⟩ := Qah (f := 6) hth.out hlt (by omega)
    obtain ⟨⟨v7, d7⟩, f7⟩ := Qah (f := 7) hth.out hlt (by omega)
    obtain ⟨⟨v8, d8⟩, f8⟩ := Qah (f := 8) hth.out hlt (by omega)
    simp only [Nat.zero_add, Nat.add_zero] at d0 f0 d1 f1 d2 f2 d3 f3 d4 f4 d5 f5 d6 f6 d7 f7 d8 f8
    go_wp2_with (go_at_call 124; refine (Qhs _ _ _ _ _ _ _ _ _ _).mono ?_; rintro e w1 ⟨rfl, g1⟩; obtain ⟨k1, m1⟩ := Qax g1; have s1 := g1.size)
    have hst := Qcb (hin.out.below hsz g1) (Qaz hth.out hsz g1) hlt
    refine ⟨⟨n + 1, by go_num, by omega, ?_, by simp; omega, hst.1, hst.2⟩, by simp [intOf]; omega⟩
    exact (((((((((via0 g1 hbl).setCell (Nat.le_refl _) _).setCell (Nat.le_refl _) _).setCell (Nat.le_refl _) _).setCell (Nat.le_refl _) _).setCell (Nat.le_refl _) _).setCell (Nat.le_refl _) _).setCell (Nat.le_refl _) _).setCell (Nat.le_refl _) _).setCell (Nat.le_refl _) _
  . have e : l.take n = l := List.take_of_length_le (by omega)
    go_wp2
    go_ret
    exact ⟨rfl, hbl, hsz, by have := hin.out; rwa [e] at this, hth.out⟩
theorem Qfp (who seq op a b c : Int) (key text : ByteArray) (w : World) :
 Calls Tryz.prog 64 #[.agg (Qan who seq op a b c key text), .agg (Qan who seq op a b c key text)] w fun e w' => e = .returned (.bool true) /\ Below w.heap.size w w' := by
 go_enter Tryz.func64, Tryz.ntmps64
 go_wp2
 go_ret
 exact ⟨rfl, by repeat (first | exact Below.refl _ _ | assumption | refine via0 (by assumption) ?_ | refine Below.drew ?_ | refine Qab ?_ _)⟩
theorem Qhb (term who seq op a b c : Int) (key text : ByteArray) (w : World) :
 Calls Tryz.prog 136 #[.agg (Qav term who seq op a b c key text), .agg (Qav term who seq op a b c key text)] w fun e w' => e = .returned (.bool true) /\ Below w.heap.size w w' := by
 go_enter Tryz.func136, Tryz.ntmps136
 go_wp2_with (go_at_call 64; refine (Qfp _ _ _ _ _ _ _ _ _).mono ?_; rintro e w1 ⟨rfl, g1⟩)
 go_ret
 exact ⟨rfl, by repeat (first | exact Below.refl _ _ | assumption | refine via0 (by assumption) ?_ | refine Below.drew ?_ | refine Qab ?_ _)⟩
theorem Qdl (A A' : Option Addr) (cap cap' : Nat) (l : List En) (hl : l.length <= 9223372036854775807) (w : World) (hA : At w A l) (hA' : At w A' l) :
 Calls Tryz.prog 104 #[.slice A l.length cap, .slice A' l.length cap'] w fun e w' => e = .returned (.bool true) /\ Below w.heap.size w w' := by
 have HA := hidP hA
 have HA' := hidP hA'
 clear hA hA'
 go_enter Tryz.func104, Tryz.ntmps104
 go_wp2
 go_loopw [5] (fun i w' => ∃ (n : Nat), i = .int .i64 (n : Int) /\ n <= l.length /\ Below w.heap.size w w') (fun i _ => l.length - (intOf i).toNat)
 case atStart => exact ⟨0, rfl, by omega, Below.refl _ _⟩
 case round =>
  obtain ⟨n, rfl, hn, hbl⟩ := hrel
  by_cases hlt : n < l.length
  . obtain ⟨b, o, rfl, hbs, hin⟩ : ∃ b o, A = some ⟨b, o, none⟩ /\ b < w.heap.size /\ In w b o l := by
     rcases HA.out with h | h
     . subst h; simp at hlt
     . exact h
    obtain ⟨b', o', rfl, hbs', hin'⟩ : ∃ b o, A' = some ⟨b, o, none⟩ /\ b < w.heap.size /\ In w b o l := by
     rcases HA'.out with h | h
     . subst h; simp at hlt
     . exact h
    obtain ⟨c0, c1, c2, c3, c4, c5, c6, c7, c8⟩ := (hin.below hbs hbl).getEn n hlt
    obtain ⟨d0, d1, d2, d3, d4, d5, d6, d7, d8⟩ := (hin'.below hbs' hbl).getEn n hlt
    have hb1 : b < wr.heap.size := Nat.lt_of_lt_of_le hbs hbl.size
    have hb2 : b' < wr.heap.size := Nat.lt_of_lt_of_le hbs' hbl.size
    have hi0 : (0 : Int) <= (n : Int) := by omega
    have hi1 : (n : Int) < (l.length : Int) := by omega
    go_wp2
    go_region_held3 (fun w' => w'.cell? ⟨b, o + n * 9, none⟩ = some (.int .i64 l[n].term) /\ w'.cell? ⟨b, o + n * 9 + 1, none⟩ = some (.int .i64 l[n].who) /\ w'.cell? ⟨b, o + n * 9 + 2, none⟩ = some (.int .i64 l[n].seq) /\ w'.cell? ⟨b, o + n * 9 + 3, none⟩ = some (.int .i64 l[n].op) /\ w'.cell? ⟨b, o + n * 9 + 4, none⟩ = some (.int .i64 l[n].a) /\ w'.cell? ⟨b, o + n * 9 + 5, none⟩ = some (.int .i64 l[n].b) /\ w'.cell? ⟨b, o + n * 9 + 6, none⟩ = some (.int .i64 l[n].c) /\ w'.cell? ⟨b, o + n * 9 + 7, none⟩ = some (.string l[n].key) /\ w'.cell? ⟨b, o + n * 9 + 8, none⟩ = some (.string l[n].text) /\ w'.cell? ⟨b', o' + n * 9, none⟩ = some (.int .i64 l[n].term) /\ w'.cell? ⟨b', o' + n * 9 + 1, none⟩ = some (.int .i64 l[n].who) /\ w'.cell? ⟨b', o' + n * 9 + 2, none⟩ = some (.int .i64 l[n].seq) /\ w'.cell? ⟨b', o' + n * 9 + 3, none⟩ = some (.int .i64 l[n].op) /\ w'.cell? ⟨b', o' + n * 9 + 4, none⟩ = some (.int .i64 l[n].a) /\ w'.cell? ⟨b', o' + n * 9 + 5, none⟩ = some (.int .i64 l[n].b) /\ w'.cell? ⟨b', o' + n * 9 + 6, none⟩ = some (.int .i64 l[n].c) /\ w'.cell? ⟨b', o' + n * 9 + 7, none⟩ = some (.string l[n].key) /\ w'.cell? ⟨b', o' + n * 9 + 8, none⟩ = some (.string l[n].text) /\ wr.heap.size <= w'.heap.size)
     (first | (go_split_ands; refine ⟨?_, ?_, ?_, ?_, ?_, ?_, ?_, ?_, ?_, ?_, ?_, ?_, ?_, ?_, ?_, ?_, ?_, ?_, ?_⟩<;>first | assumption | exact (k1 _ _ hb1).trans (by assumption) | exact (k1 _ _ hb2).trans (by assumption) | exact s1 | (simp; done)) | go_keep)
     (first
      | (go_at_call 136; refine (Qhb _ _ _ _ _ _ _ _ _ _).mono ?_; rintro e w1 ⟨rfl, g1⟩; obtain ⟨k1, m1⟩ := Qax g1; have s1 := g1.size))
    all_goals
     go_wp2
     exact ⟨⟨n + 1, by go_num, by omega, via0 g1 hbl.drew⟩, by simp [intOf]; omega⟩
  . go_wp2
    go_ret
    exact ⟨rfl, hbl⟩
theorem openEn {H : Type} {enc : TypeId × Value -> H} {w : World} {base n : Nat} {spare : Nat -> Bool} {held : Bool} {a : Addr} {cs : List Value} {y : DataW H × List MemPlace}
 (h1 : w.cells? base a 9 = some cs) (h2 : DataW.trod enc Tryz.prog w base spare held n 177 cs = some y) :
 ∃ x : En, x.right /\ a.spot = none /\ a.block < w.heap.size /\ ∀ j v, (Cel.cs x)[j]? = some v -> w.cell? ⟨a.block, a.off + j, none⟩ = some v := by
 obtain ⟨_, hlen, hc⟩ := World.cells?_some h1
 match cs, hlen with
 | [c0, c1, c2, c3, c4, c5, c6, c7, c8], _ =>
  obtain ⟨y0, y1, m', _, _, t0, t1⟩ := trod_struct2 Tryz.underlying177 h2
  have g0 : DataW.trod enc Tryz.prog w base spare held m' 3 [c0] = some y0 := t0
  have u1 : DataW.trod enc Tryz.prog w base spare held m' 103 [c1, c2, c3, c4, c5, c6, c7, c8] = some y1 := t1
  obtain ⟨m, hf⟩ := Qbi Tryz.underlying103 (by kernel_rfl) u1
  obtain ⟨z1, g1⟩ := hf 0 _ rfl _ rfl
  obtain ⟨z2, g2⟩ := hf 1 _ rfl _ rfl
  obtain ⟨z3, g3⟩ := hf 2 _ rfl _ rfl
  obtain ⟨z4, g4⟩ := hf 3 _ rfl _ rfl
  obtain ⟨z5, g5⟩ := hf 4 _ rfl _ rfl
  obtain ⟨z6, g6⟩ := hf 5 _ rfl _ rfl
  obtain ⟨z7, g7⟩ := hf 6 _ rfl _ rfl
  obtain ⟨z8, g8⟩ := hf 7 _ rfl _ rfl
  obtain ⟨v0, e0, _, w0⟩ := DataW.trod_int Tryz.underlying3 g0
  obtain ⟨v1, e1, _, w1⟩ := DataW.trod_int Tryz.underlying3 g1
  obtain ⟨v2, e2, _, w2⟩ := DataW.trod_int Tryz.underlying3 g2
  obtain ⟨v3, e3, _, w3⟩ := DataW.trod_int Tryz.underlying3 g3
  obtain ⟨v4, e4, _, w4⟩ := DataW.trod_int Tryz.underlying3 g4
  obtain ⟨v5, e5, _, w5⟩ := DataW.trod_int Tryz.underlying3 g5
  obtain ⟨v6, e6, _, w6⟩ := DataW.trod_int Tryz.underlying3 g6
  obtain ⟨v7, e7, _, w7⟩ := DataW.trod_string Tryz.underlying9 g7
  obtain ⟨v8, e8, _, w8⟩ := DataW.trod_string Tryz.underlying9 g8
  simp at e0 e1 e2 e3 e4 e5 e6 e7 e8
  subst e0 e1 e2 e3 e4 e5 e6 e7 e8
  have q0 := hc 0 (by omega)
  have hsp : a.spot = none := by
   cases hs : a.spot with
   | none => rfl
   | some s => exfalso; simp [Addr.add, World.cell?, hs] at q0; split at q0<;>simp at q0
  have hlt : a.block < w.heap.size := by
   rw [show a.add 0 = a from rfl] at q0
   unfold World.cell? at q0
   cases hh : w.heap[a.block]? with
   | none => simp [hh] at q0
   | some ob => exact (Array.getElem?_eq_some_iff.1 hh).1
  refine ⟨⟨v0, v1, v2, v3, v4, v5, v6, v7, v8⟩, ⟨Qa8 w0, Qa8 w1, Qa8 w2, Qa8 w3, Qa8 w4, Qa8 w5, Qa8 w6, by simpa [maxLen] using w7, by simpa [maxLen] using w8⟩, hsp, hlt, ?_⟩
  intro j v hv
  have hj : j < 9 := (List.getElem?_eq_some_iff.1 hv).1
  have q := hc j hj
  have e : a.add j = ⟨a.block, a.off + j, none⟩ := by
   obtain ⟨b, o, s⟩ := a
   simp only at hsp
   subst hsp
   exact Addr.add_mid b o j
  rw [e] at q
  rw [q]
  exact hv
theorem cellsEnL : Tryz.prog.cellsOf 177 = 9 := by kernel_rfl
theorem Qfj {H : Type} {enc : TypeId × Value -> H} {W : World} {base n : Nat} {spare : Nat -> Bool} {held : Bool} {c : Value} {y : DataW H × List MemPlace}
 (g : DataW.trod enc Tryz.prog W base spare held n 84 [c] = some y) :
 ∃ (A : Option Addr) (cap : Nat) (l : List En), c = .slice A l.length cap /\ l.length <= 9223372036854775807 /\ (∀ x ∈ l, x.right) /\ At W A l := by
 rcases open_slice Tryz.underlying84 g with ⟨e2, _⟩ | ⟨a, len, cap, m, n', D, Pl, e2, _, hl, hm, hmm, _, hx⟩
 . simp at e2
   subst e2
   exact ⟨none, 0, [], rfl, by simp, by simp, .inl rfl⟩
 . simp at e2
   subst e2
   have hle : len <= m := by rw [hmm]; split<;>omega
   rw [cellsEnL] at hx
   obtain ⟨X, hX⟩ := choose_lt (α := En) (p := fun i x => x.right /\ (a.add (i * 9)).spot = none /\ (a.add (i * 9)).block < W.heap.size /\ ∀ j v, (Cel.cs x)[j]? = some v -> W.cell? ⟨(a.add (i * 9)).block, (a.add (i * 9)).off + j, none⟩ = some v)
    (n := len) (fun i hi => by obtain ⟨cs', h1, h2⟩ := hx i (by omega); exact openEn h1 h2)
   obtain ⟨l, rfl, hR, hat⟩ := Qdo (α := En) (by decide) (R := En.right) hX
   exact ⟨some a, cap, l, rfl, by simp [maxLen] at hm ⊢; omega, hR, hat⟩
end Go.Proofs.YtkmkldjipihceaaGreat.Gen
