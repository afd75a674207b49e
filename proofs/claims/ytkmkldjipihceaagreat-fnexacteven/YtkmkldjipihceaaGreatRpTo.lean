/-
  Messages: their sz, their to, and how a law's message lies. No condition.
-/
import Derived.Test.YtkmkldjipihceaaGreatRpcV
set_option linter.unusedVariables false
set_option linter.unusedSimpArgs false
set_option maxRecDepth 100000
set_option maxHeartbeats 8000000
set_option maxRecDepth 100000
set_option maxHeartbeats 8000000
namespace Go.Proofs.YtkmkldjipihceaaGreat.Gen
open ChangeShapes WideShapes ChangeAt RowKit Joins Deep Base
theorem szRpc_any (kind frm too term index iterm commit : Int) (ok : Bool) (snap : ByteArray) (hs : snap.size <= 9223372036854775807) (A : Option Addr) (cap : Nat) (l : List En) (hl : l.length <= 9223372036854775807) (hr : ∀ x ∈ l, x.fit) (left : Int) (h0 : 0 <= left) (h1 : left <= 1048576) (w : World) (hA : At w A l) :
 Calls Tryz.prog 36 #[.agg (Qaf kind frm too term index iterm commit A l.length cap ok snap), .int .i64 left] w fun e w' => (∃ r : Int, e = .returned (.int .i64 r) /\ (r < 0 ∨ (0 <= r /\ r = left - (l.length : Int) - (Qat szEn l : Int) - (snap.size : Int)))) /\ Below w.heap.size w w' := by
 have HA := hidP hA
 have Hr := hidP hr
 clear hA hr
 go_enter Tryz.func36, Tryz.ntmps36
 go_wp2_with fail
 refine (Qdx A cap l hl Hr.out left h0 h1 _ (HA.out.below (by repeat (first | exact Below.refl _ _ | assumption | refine via0 (by assumption) ?_ | refine Below.drew ?_ | refine Qab ?_ _)))).mono ?_
 rintro e w1 ⟨⟨r, rfl, hr⟩, g1⟩
 have B1 : Below w.heap.size w w1 := by repeat (first | exact Below.refl _ _ | assumption | refine via0 (by assumption) ?_ | refine Below.drew ?_ | refine Qab ?_ _)
 have p1 := (Blk.new w 100 (Qaf kind frm too term index iterm commit A l.length cap ok snap)).below g1 (by simp)
 obtain ⟨d0, d1, d2, d3, d4, d5, d6, d7, d8, d9⟩ := p1.row10
 have q1 := p1.lt
 have hr1 : r < 0 ∨ (0 <= r /\ r <= 1048576) := by
  rcases hr with h | ⟨h, e⟩
  . exact .inl h
  . exact .inr ⟨h, by omega⟩
 have HR := hidP hr
 clear hr g1
 by_cases hn : r < 0
 . go_wp2
   go_ret
   exact ⟨⟨-1, rfl, .inl (by omega)⟩, B1⟩
 . obtain ⟨hr2, hr3⟩ : 0 <= r /\ r <= 1048576 := by omega
   by_cases hn2 : r - (snap.size : Int) < 0
   . go_wp2
     go_ret
     exact ⟨⟨-1, rfl, .inl (by omega)⟩, B1⟩
   . go_wp2
     go_ret
     refine ⟨⟨_, rfl, .inr ⟨by omega, ?_⟩⟩, B1⟩
     rcases HR.out with h | ⟨_, h⟩
     . omega
     . omega
theorem toRpc_any (kind frm too term index iterm commit : Int) (ok : Bool) (snap : ByteArray) (A : Option Addr) (cap : Nat) (l : List En) (hl : l.length <= 1048576) (w : World) (hA : At w A l) :
 Calls Tryz.prog 45 #[.agg (Qaf kind frm too term index iterm commit A l.length cap ok snap)] w
  fun e w' => ∃ b, e = .returned (.agg (Qaf kind frm too term index iterm commit (some ⟨b, 0, none⟩) l.length l.length ok snap)) /\ Below w.heap.size w w' /\ w.heap.size <= b /\ b < w'.heap.size /\ In w' b 0 l /\ w'.there b 0 (l.length * 9) := by
 have HA := hidP hA
 clear hA
 go_enter Tryz.func45, Tryz.ntmps45
 go_wp2_with (go_at_call 87; refine (Qdv A cap l hl _ (HA.out.below ?_)).mono ?_; (repeat (first | exact Below.refl _ _ | refine Qab ?_ _ | refine Qa5 ?_ (by simp<;>omega) _)); rintro e w1 ⟨rfl, g1, s1, i1, t1⟩; obtain ⟨k1, m1⟩ := Qax g1)
 have i2 : In w1 (w.heap.size + 1 + 1 + 1) 0 l := by simpa using i1
 have t2 : w1.there (w.heap.size + 1 + 1 + 1) 0 (l.length * 9) := by simpa using t1
 have s2 : w.heap.size + 1 + 1 + 1 < w1.heap.size := by simpa using s1
 have g2 : Below w.heap.size w w1 := via0 g1 (by repeat (first | exact Below.refl _ _ | refine Qab ?_ _ | refine Qa5 ?_ (by simp<;>omega) _))
 refine bodyPost_ret (v := .agg (Qaf kind frm too term index iterm commit (some ⟨w.heap.size + 1 + 1 + 1, 0, none⟩) l.length l.length ok snap)) (by simp [results, Tryz.results45, go_sem, k1]) rfl ⟨w.heap.size + 1 + 1 + 1, rfl, ?_, by omega, by simp; omega, ?_, ?_⟩
 . repeat (first | with_reducible exact g2 | refine Qa5 ?_ (by omega) _)
 . repeat (first | with_reducible exact i2 | refine In.set ?_ _ _ (by simp))
 . repeat (first | with_reducible exact t2 | refine Qaj ?_ _ _ _)
theorem cellsRpc : Tryz.prog.cellsOf 100 = 10 := by kernel_rfl
def RpC.right (x : RpC) : Prop := x.l.length <= 9223372036854775807 /\ (∀ y ∈ x.l, y.right) /\ x.snap.size <= 9223372036854775807
def szRP (x : RpC) : Nat := x.l.length + Qat szEn x.l + x.snap.size
theorem Qfe (A : Option Addr) (cap : Nat) (l : List RpC) (hl : l.length <= 9223372036854775807) (hr : ∀ x ∈ l, x.right) (left : Int) (h0 : 0 <= left) (h1 : left <= 1048576) (w : World) (hA : At w A l) (hE : EachP w l) :
 Calls Tryz.prog 13 #[.slice A l.length cap, .int .i64 left] w fun e w' => (∃ r : Int, e = .returned (.int .i64 r) /\ (r < 0 ∨ (0 <= r /\ r = left - (l.length : Int) - (Qat szRP l : Int)))) /\ Below w.heap.size w w' := by
 have HA := hidP hA
 have Hr := hidP hr
 have HE := hidP hE
 clear hA hr hE
 by_cases h : left < (l.length : Int)
 . have g : left - (l.length : Int) < 0 := by omega
   go_enter Tryz.func13, Tryz.ntmps13
   go_wp2
   go_ret
   exact ⟨⟨-1, rfl, .inl (by omega)⟩, Below.refl _ _⟩
 . have g : ¬ left - (l.length : Int) < 0 := by omega
   go_enter Tryz.func13, Tryz.ntmps13
   go_wp2
   go_loopw [1, 5] (fun q i w' => ∃ (n : Nat) (z : Int), i = .int .i64 (n : Int) /\ q = .int .i64 z /\ n <= l.length /\ 0 <= z /\ z <= 1048576 /\ Hid (z = left - (l.length : Int) - (Qat szRP (l.take n) : Int)) /\ Below w.heap.size w w') (fun _ i _ => l.length - (intOf i).toNat)
   case atStart => exact ⟨0, _, rfl, rfl, by omega, by omega, by omega, by simp [Hid, Qat], Below.refl _ _⟩
   case round =>
    obtain ⟨n, z, rfl, rfl, hn, hz0, hz1, hz, hbl⟩ := hrel
    by_cases hlt : n < l.length
    . obtain ⟨b, o, rfl, hbs, hIn⟩ : ∃ b o, A = some ⟨b, o, none⟩ /\ b < w.heap.size /\ In w b o l := by
       rcases HA.out with h | h
       . subst h; simp at hlt
       . exact h
      obtain ⟨c0, c1, c2, c3, c4, c5, c6, c7, c8, c9⟩ := (hIn.below hbs hbl).getRpC n hlt
      have hms := hidP (Hr.out _ (List.getElem_mem hlt))
      have hat := hidP ((HE.out _ (List.getElem_mem hlt)).below hbl)
      have hsn := hidP (Qbl szRP l n hlt)
      have HS : Hid (Calls Tryz.prog 36 #[.agg (Cel.cs l[n]).toArray, .int .i64 z] wr fun e w' => (∃ r : Int, e = .returned (.int .i64 r) /\ (r < 0 ∨ (0 <= r /\ r = z - (l[n].l.length : Int) - (Qat szEn l[n].l : Int) - (l[n].snap.size : Int)))) /\ Below wr.heap.size wr w') := szRpc_any l[n].kind l[n].frm l[n].too l[n].term l[n].index l[n].iterm l[n].commit l[n].ok l[n].snap hms.out.2.2 l[n].A l[n].cap l[n].l hms.out.1 (fun y hy => (hms.out.2.1 y hy).fit) z hz0 hz1 wr hat.out
      go_wp2_with fail
      refine HS.out.mono ?_
      rintro e w1 ⟨⟨r, rfl, hr⟩, g1⟩
      rcases hr with hr | ⟨hr0, hr1⟩
      . go_wp2
        go_ret
        exact ⟨⟨-1, rfl, .inl (by omega)⟩, via0 g1 hbl⟩
      . have hp : ¬ r < 0 := by omega
        have hr2 : r <= 1048576 := by omega
        have HR1 := hidP hr1
        clear hr1
        go_wp2
        have hz' := hz.out
        have hsn' := hsn.out
        have hr' := HR1.out
        exact ⟨⟨n + 1, r, by go_num, rfl, by omega, by omega, by omega, by show _ = _; rw [hsn', hr', hz']; simp only [szRP]; omega, via0 g1 hbl⟩, by simp [intOf]; omega⟩
    . have e : l.take n = l := List.take_of_length_le (by omega)
      go_wp2
      go_ret
      have hz' := hz.out
      rw [e] at hz'
      exact ⟨⟨z, rfl, .inr ⟨hz0, hz'⟩⟩, hbl⟩
theorem Qfa (A : Option Addr) (cap : Nat) (l : List RpC) (hl : l.length <= 1048576) (hr : ∀ x ∈ l, x.l.length <= 1048576) (w : World) (hA : At w A l) (hE : EachP w l) :
 Calls Tryz.prog 20 #[.slice A l.length cap] w fun e w' => e = .returned (.slice (some ⟨w.heap.size, 0, none⟩) l.length l.length) /\ Below w.heap.size w w' /\ ∃ l', Grow rpcP w' w.heap.size l.length l' /\ l'.map RpC.p = l.map RpC.p := by
 have HA := hidP hA
 have HE := hidP hE
 have Hr := hidP hr
 clear hA hE hr
 have hmk := Qbg (P := Tryz.prog) Tryz.underlying35 infoRpC (by omega) l.length hl
 go_enter Tryz.func20, Tryz.ntmps20
 go_wp2
 go_loopw [4] (fun i w' => ∃ (n : Nat) (pre : List RpC), i = .int .i64 (n : Int) /\ n <= l.length /\ Below w.heap.size w w' /\ w.heap.size < w'.heap.size /\ Hid (pre.length = n) /\ Hid (Grow rpcP w' w.heap.size l.length pre) /\ Hid (pre.map RpC.p = (l.take n).map RpC.p)) (fun i _ => l.length - (intOf i).toNat)
 case atStart => exact ⟨0, [], rfl, by omega, by repeat (first | exact Below.refl _ _ | assumption | refine via0 (by assumption) ?_ | refine Below.drew ?_ | refine Qab ?_ _), by simp, rfl, Grow.start (by simp) (Qa0 w _ _ _ _), by simp [Hid]⟩
 case round =>
  obtain ⟨n, pre, rfl, hn, hbl, hsz, hpl, hgr, hsame⟩ := hrel
  by_cases hlt : n < l.length
  . obtain ⟨b, o, rfl, hbs, hIn⟩ : ∃ b o, A = some ⟨b, o, none⟩ /\ b < w.heap.size /\ In w b o l := by
     rcases HA.out with h | h
     . subst h; simp at hlt
     . exact h
    obtain ⟨c0, c1, c2, c3, c4, c5, c6, c7, c8, c9⟩ := (hIn.below hbs hbl).getRpC n hlt
    have hms := Hr.out _ (List.getElem_mem hlt)
    have hat := hidP ((HE.out _ (List.getElem_mem hlt)).below hbl)
    have HS : Hid (Calls Tryz.prog 45 #[.agg (Cel.cs l[n]).toArray] wr fun e w' => ∃ b, e = .returned (.agg (Qaf l[n].kind l[n].frm l[n].too l[n].term l[n].index l[n].iterm l[n].commit (some ⟨b, 0, none⟩) l[n].l.length l[n].l.length l[n].ok l[n].snap)) /\ Below wr.heap.size wr w' /\ wr.heap.size <= b /\ b < w'.heap.size /\ In w' b 0 l[n].l /\ w'.there b 0 (l[n].l.length * 9)) := toRpc_any l[n].kind l[n].frm l[n].too l[n].term l[n].index l[n].iterm l[n].commit l[n].ok l[n].snap l[n].A l[n].cap l[n].l hms wr hat.out
    obtain ⟨⟨v0, d0⟩, f0⟩ := Qah (f := 0) hgr.out.th hlt (by decide)
    obtain ⟨⟨v1, d1⟩, f1⟩ := Qah (f := 1) hgr.out.th hlt (by decide)
    obtain ⟨⟨v2, d2⟩, f2⟩ := Qah (f := 2) hgr.out.th hlt (by decide)
    obtain ⟨⟨v3, d3⟩, f3⟩ := Qah (f := 3) hgr.out.th hlt (by decide)
    obtain ⟨⟨v4, d4⟩, f4⟩ := Qah (f := 4) hgr.out.th hlt (by decide)
    obtain ⟨⟨v5, d5⟩, f5⟩ := Qah (f := 5) hgr.out.th hlt (by decide)
    obtain ⟨⟨v6, d6⟩, f6⟩ := Qah (f := 6) hgr.out.th hlt (by decide)
    obtain ⟨⟨v7, d7⟩, f7⟩ := Qah (f := 7) hgr.out.th hlt (by decide)
    obtain ⟨⟨v8, d8⟩, f8⟩ := Qah (f := 8) hgr.out.th hlt (by decide)
    obtain ⟨⟨v9, d9⟩, f9⟩ := Qah (f := 9) hgr.out.th hlt (by decide)
    simp only [Nat.zero_add, Nat.add_zero, show Cel.k RpC = 10 from rfl] at d0 f0 d1 f1 d2 f2 d3 f3 d4 f4 d5 f5 d6 f6 d7 f7 d8 f8 d9 f9
    go_wp2_with (go_at_call 45; refine HS.out.mono ?_; rintro e w1 ⟨bx, rfl, g1, hbx, hbx', hix, htx⟩; obtain ⟨k1, m1⟩ := Qax g1; have s1 := g1.size; have hix := hidP hix; have htx := hidP htx)
    have hpl' := hpl.out
    have hst := hgr.out.snoc Qdg (by omega) g1 (y := (⟨l[n].kind, l[n].frm, l[n].too, l[n].term, l[n].index, l[n].iterm, l[n].commit, some ⟨bx, 0, none⟩, l[n].l.length, l[n].l, l[n].ok, l[n].snap⟩ : RpC)) (S := fun x => x = bx) (.inr ⟨bx, 0, rfl, rfl, hbx', hix.out, htx.out⟩) (fun x hx => by subst hx; exact ⟨hbx, hbx'⟩)
    rw [hpl'] at hst
    refine ⟨⟨n + 1, _, by go_num, by omega, ?_, by simp; omega, ?_, hst, ?_⟩, by simp [intOf]; omega⟩
    . exact (((((((((((via0 g1 hbl).setCell (Nat.le_refl _) _).setCell (Nat.le_refl _) _).setCell (Nat.le_refl _) _).setCell (Nat.le_refl _) _).setCell (Nat.le_refl _) _).setCell (Nat.le_refl _) _).setCell (Nat.le_refl _) _).setCell (Nat.le_refl _) _).setCell (Nat.le_refl _) _).setCell (Nat.le_refl _) _)
    . show _ = _; simp [hpl']
    . show _ = _
      rw [List.map_append, hsame.out, List.take_succ_eq_append_getElem hlt, List.map_append]
      rfl
  . have e : l.take n = l := List.take_of_length_le (by omega)
    go_wp2
    go_ret
    exact ⟨rfl, hbl, pre, hgr.out, by rw [hsame.out, e]⟩
theorem openRpC1 {H : Type} {enc : TypeId × Value -> H} {w : World} {base n : Nat} {spare : Nat -> Bool} {held : Bool} {a : Addr} {cs : List Value} {y : DataW H × List MemPlace}
 (h1 : w.cells? base a 10 = some cs) (h2 : DataW.trod enc Tryz.prog w base spare held n 100 cs = some y) :
 ∃ x : RpC, (x.right /\ At w x.A x.l) /\ a.spot = none /\ a.block < w.heap.size /\ ∀ j v, (Cel.cs x)[j]? = some v -> w.cell? ⟨a.block, a.off + j, none⟩ = some v := by
 obtain ⟨_, hlen, hc⟩ := World.cells?_some h1
 match cs, hlen with
 | [c0, c1, c2, c3, c4, c5, c6, c7, c8, c9], _ =>
  obtain ⟨m, hf⟩ := Qbi Tryz.underlying100 (by kernel_rfl) h2
  obtain ⟨y0, g0⟩ := hf 0 _ rfl _ rfl
  obtain ⟨y1, g1⟩ := hf 1 _ rfl _ rfl
  obtain ⟨y2, g2⟩ := hf 2 _ rfl _ rfl
  obtain ⟨y3, g3⟩ := hf 3 _ rfl _ rfl
  obtain ⟨y4, g4⟩ := hf 4 _ rfl _ rfl
  obtain ⟨y5, g5⟩ := hf 5 _ rfl _ rfl
  obtain ⟨y6, g6⟩ := hf 6 _ rfl _ rfl
  obtain ⟨y7, g7⟩ := hf 7 _ rfl _ rfl
  obtain ⟨y8, g8⟩ := hf 8 _ rfl _ rfl
  obtain ⟨y9, g9⟩ := hf 9 _ rfl _ rfl
  obtain ⟨kind, e0, _, w0⟩ := DataW.trod_int Tryz.underlying3 g0
  obtain ⟨frm, e1, _, w1⟩ := DataW.trod_int Tryz.underlying3 g1
  obtain ⟨too, e2, _, w2⟩ := DataW.trod_int Tryz.underlying3 g2
  obtain ⟨term, e3, _, w3⟩ := DataW.trod_int Tryz.underlying3 g3
  obtain ⟨index, e4, _, w4⟩ := DataW.trod_int Tryz.underlying3 g4
  obtain ⟨iterm, e5, _, w5⟩ := DataW.trod_int Tryz.underlying3 g5
  obtain ⟨commit, e6, _, w6⟩ := DataW.trod_int Tryz.underlying3 g6
  obtain ⟨ok, e8, _⟩ := DataW.trod_bool Tryz.underlying4 g8
  obtain ⟨snap, e9, _, w9⟩ := DataW.trod_string Tryz.underlying9 g9
  simp at e0 e1 e2 e3 e4 e5 e6 e8 e9
  subst e0 e1 e2 e3 e4 e5 e6 e8 e9
  have q0 := hc 0 (by omega)
  have hsp : a.spot = none := by
   cases hs : a.spot with
   | none => rfl
   | some s => exfalso; simp [Addr.add, World.cell?, hs] at q0; split at q0<;>simp at q0
  have hlt : a.block < w.heap.size := by
   rw [show a.add 0 = a from rfl] at q0
   unfold World.cell? at q0
   cases hh : w.heap[a.block]? with
   | none => simp [hh] at q0
   | some ob => exact (Array.getElem?_eq_some_iff.1 hh).1
  obtain ⟨A, cap, l, rfl, hl, hR, hat⟩ := Qfj g7
  refine ⟨⟨kind, frm, too, term, index, iterm, commit, A, cap, l, ok, snap⟩, ⟨⟨hl, hR, by simpa [maxLen] using w9⟩, hat⟩, hsp, hlt, ?_⟩
  intro j v hv
  have hj : j < 10 := (List.getElem?_eq_some_iff.1 hv).1
  have q := hc j hj
  have e : a.add j = ⟨a.block, a.off + j, none⟩ := by
   obtain ⟨b, o, s⟩ := a
   simp only at hsp
   subst hsp
   exact Addr.add_mid b o j
  rw [e] at q
  rw [q]
  exact hv
theorem openRpcS {H : Type} {enc : TypeId × Value -> H} {W : World} {base n : Nat} {spare : Nat -> Bool} {held : Bool} {c : Value} {y : DataW H × List MemPlace}
 (g : DataW.trod enc Tryz.prog W base spare held n 25 [c] = some y) :
 ∃ (A : Option Addr) (cap : Nat) (l : List RpC), c = .slice A l.length cap /\ l.length <= 9223372036854775807 /\ (∀ x ∈ l, x.right) /\ At W A l /\ EachP W l := by
 rcases open_slice Tryz.underlying25 g with ⟨e2, _⟩ | ⟨a, len, cap, m, n', D, Pl, e2, _, hl, hm, hmm, _, hx⟩
 . simp at e2
   subst e2
   exact ⟨none, 0, [], rfl, by simp, by simp, .inl rfl, by simp [EachP]⟩
 . simp at e2
   subst e2
   have hle : len <= m := by rw [hmm]; split<;>omega
   rw [cellsRpc] at hx
   obtain ⟨X, hX⟩ := choose_lt (α := RpC) (p := fun i x => (x.right /\ At W x.A x.l) /\ (a.add (i * 10)).spot = none /\ (a.add (i * 10)).block < W.heap.size /\ ∀ j v, (Cel.cs x)[j]? = some v -> W.cell? ⟨(a.add (i * 10)).block, (a.add (i * 10)).off + j, none⟩ = some v)
    (n := len) (fun i hi => by obtain ⟨cs', h1, h2⟩ := hx i (by omega); exact openRpC1 h1 h2)
   obtain ⟨l, rfl, hR, hat⟩ := Qdo (α := RpC) (by decide) (R := fun x => x.right /\ At W x.A x.l) hX
   exact ⟨some a, cap, l, rfl, by simp [maxLen] at hm ⊢; omega, fun x hx => (hR x hx).1, hat, fun x hx => (hR x hx).2⟩
end Go.Proofs.YtkmkldjipihceaaGreat.Gen
