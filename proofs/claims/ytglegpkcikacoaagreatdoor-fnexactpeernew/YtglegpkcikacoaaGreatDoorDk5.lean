/-
  The program's drive: made of a disk, put to, made sure. No condition but that there are at most 1048576 bytes.
-/
import Derived.Test.YtglegpkcikacoaaGreatDoorRd
import Derived.Test.YtglegpkcikacoaaGreatDoorCopies
set_option linter.unusedVariables false
set_option linter.unusedSimpArgs false
set_option maxRecDepth 100000
set_option maxHeartbeats 8000000
namespace Go.Proofs.YtglegpkcikacoaaGreatDoor.Gen
open ChangeShapes WideShapes ChangeAt RowKit Joins Deep Base MuLone
theorem Blk.row5d {W : World} {B : Nat} {t : TypeId} {a b c d e : Value} (h : Blk W B t #[a, b, c, d, e]) : W.cell? ⟨B, 0, none⟩ = some a /\ W.cell? ⟨B, 1, none⟩ = some b /\ W.cell? ⟨B, 2, none⟩ = some c /\ W.cell? ⟨B, 3, none⟩ = some d /\ W.cell? ⟨B, 4, none⟩ = some e := ⟨h.cell (by rfl), h.cell (by rfl), h.cell (by rfl), h.cell (by rfl), h.cell (by rfl)⟩
theorem load64_any (d : Nat) (n : Int) (w : World) (h : w.cell? ⟨d, 4, none⟩ = some (.int .i64 n)) :
 Calls Tryz.prog 174 #[.pointer (some ⟨d, 4, none⟩)] w fun e w' => e = .returned (.int .i64 n) /\ w' = w := by
 have hl := run_call_load (P := Tryz.prog) Tryz.func201 (by kernel_rfl) (by kernel_rfl) (by kernel_rfl) .i64 (by kernel_rfl) h
 go_enter Tryz.func174, Tryz.ntmps174
 go_wp2
 go_ret
 exact ⟨rfl, rfl⟩
theorem add64_any (d : Nat) (w : World) (h : w.cell? ⟨d, 4, none⟩ = some (.int .i64 0)) (hz : w.frozen? ⟨d, 4, none⟩ = false) :
 Calls Tryz.prog 171 #[.pointer (some ⟨d, 4, none⟩), .int .i64 1] w fun e w' => e = .returned (.int .i64 1) /\ w' = w.setCell ⟨d, 4, none⟩ (.int .i64 1) := by
 have hl := run_call_add (P := Tryz.prog) Tryz.func198 (by kernel_rfl) (by kernel_rfl) (by kernel_rfl) .i64 (by kernel_rfl) (y := 1) (s := 1) h hz (by simp [go_sem]; rfl)
 go_enter Tryz.func171, Tryz.ntmps171
 go_wp2
 go_ret
 exact ⟨rfl, rfl⟩
theorem copied_any (su : Int) (A : Option Addr) (cap : Nat) (l : List UInt8) (hl : l.length <= 3000000) (w : World) (hA : At w A l) :
 Calls Tryz.prog 170 #[.agg #[.slice A l.length cap, .int .i64 su]] w fun e w' => ∃ a c, e = .returned (.agg #[.slice a l.length c, .int .i64 su]) /\ w'.ownsRow w.heap.size 5 1 (.slice a l.length c) l.length (flat l) /\ Below w.heap.size w w' := by
 have HA := hidP hA
 clear hA
 have B0 : Below w.heap.size w ((w.alloc (.cells #[.slice A l.length cap, .int .i64 su] 39)).alloc (.cells #[.slice none 0 0, .int .i64 0] 39)) := Qaa (Qaa (Below.refl _ _) _) _
 have p := (Blk.new w 39 #[.slice A l.length cap, .int .i64 su]).alloc (.cells #[.slice none 0 0, .int .i64 0] 39)
 have r := Blk.new (w.alloc (.cells #[.slice A l.length cap, .int .i64 su] 39)) 39 #[.slice none 0 0, .int .i64 0]
 rw [World.size_alloc] at r
 have zr : w.heap.size + 1 < ((w.alloc (.cells #[.slice A l.length cap, .int .i64 su] 39)).alloc (.cells #[.slice none 0 0, .int .i64 0] 39)).heap.size := r.lt
 obtain ⟨v1, w1, hr1, own1, gr1, at1⟩ := Qkz ((w.alloc (.cells #[.slice A l.length cap, .int .i64 su] 39)).alloc (.cells #[.slice none 0 0, .int .i64 0] 39)).heap.size (.slice none 0 0) [] l A cap ((w.alloc (.cells #[.slice A l.length cap, .int .i64 su] 39)).alloc (.cells #[.slice none 0 0, .int .i64 0] 39)) (Nat.le_refl _) (World.ownsRow_nil _ _ _ _) (HA.out.below B0) (by simp; omega)
 simp only [List.length_nil, Nat.zero_add, List.nil_append] at own1
 obtain ⟨a1, c1, rfl, _⟩ := Qa5 own1
 have B1 : Below w.heap.size w w1 := B0.grown gr1 B0.size (fun k e => by cases e)
 have p1 := p.kept gr1 (by intro h; cases h)
 have r1 := r.kept gr1 (by intro h; cases h)
 have z0 := B0.size
 have far : ∀ C, C < ((w.alloc (.cells #[.slice A l.length cap, .int .i64 su] 39)).alloc (.cells #[.slice none 0 0, .int .i64 0] 39)).heap.size -> some C ≠ (Value.slice a1 l.length c1).ownBlock := fun C hC => owns_far own1 hC
 have R := (((r1.other (B' := w.heap.size) (by omega) 0 (.slice a1 l.length c1)).setAt 0 (.slice a1 l.length c1)).setAt 1 (.int .i64 su))
 have P1 : Blk _ w.heap.size 39 #[.slice a1 l.length c1, .int .i64 su] := p1.setAt 0 (.slice a1 l.length c1)
 obtain ⟨e0, e1⟩ := Blk.row2 R
 obtain ⟨u0, u1⟩ := p.row2
 obtain ⟨k0, k1⟩ := p1.row2
 obtain ⟨m0, m1⟩ := P1.row2
 obtain ⟨y0, y1⟩ := r1.row2
 have f0 := p1.thaw 0
 have f1 := r1.thaw 0
 have f2 := r1.thaw 1
 have O1 := hidP own1
 have Far := hidP far
 clear R P1 own1 gr1 at1 far
 go_enter Tryz.func170, Tryz.ntmps170
 go_wp2_with (at_builtin; refine Qat rfl _ _ _ rfl _ _ _ rfl rfl hr1 ?_)
 exact bodyPost_ret (v := .agg #[.slice a1 l.length c1, .int .i64 su]) (by simp [results, Tryz.results170, go_sem, e0, e1]) rfl
  ⟨_, _, rfl, Qch (Qbf (Qbf (Qbf O1.out (Far.out _ (by omega))) (Far.out _ zr)) (Far.out _ zr)) z0, Qam (Qam (Qam B1 (by omega) _) (by omega) _) (by omega) _⟩
theorem Qkw (su : Int) (A : Option Addr) (cap : Nat) (l : List UInt8) (hl : l.length <= 3000000) (w : World) (hA : At w A l) :
 Calls Tryz.prog 136 #[.agg #[.slice A l.length cap, .int .i64 su]] w fun e w' => ∃ d a c, e = .returned (.pointer (some ⟨d, 0, none⟩)) /\ Blk w' d 235 #[.int .i32 0, .int .u32 0, .slice a l.length c, .int .i64 su, .int .i64 0] /\ w'.ownsRow w.heap.size 5 1 (.slice a l.length c) l.length (flat l) /\ w.heap.size <= d /\ some d ≠ (Value.slice a l.length c).ownBlock /\ Below w.heap.size w w' := by
 have HA := hidP hA
 clear hA
 go_enter Tryz.func136, Tryz.ntmps136
 go_wp2_with fail
 refine (copied_any su A cap l hl _ (HA.out.below (Qaa (Below.refl _ _) _))).mono ?_
 rintro e w1 ⟨a, c, rfl, o1, g1⟩
 have B1 : Below w.heap.size w w1 := by repeat (first | exact Below.refl _ _ | assumption | refine via0 (by assumption) ?_ | refine Below.drew ?_ | refine Qaa ?_ _)
 have O1 := hidP o1
 have z := B1.size
 have n : some w1.heap.size ≠ (Value.slice a l.length c).ownBlock := fun e => Nat.lt_irrefl _ (owns_lt O1.out e.symm)
 clear o1 g1
 go_wp2
 go_ret
 exact ⟨_, _, _, rfl, Blk.new _ _ _, Qch (Qca O1.out _) (by simp), z, n, Qaa B1 _⟩
theorem Qiz (d : Nat) (w : World) (h : w.cell? ⟨d, 4, none⟩ = some (.int .i64 0)) (hz : w.frozen? ⟨d, 4, none⟩ = false) :
 Calls Tryz.prog 137 #[.pointer (some ⟨d, 0, none⟩)] w fun e w' => e = .returned (.tuple #[]) /\ w' = w.setCell ⟨d, 4, none⟩ (.int .i64 1) := by
 go_enter Tryz.func137, Tryz.ntmps137
 go_wp2_with fail
 refine (add64_any d w h hz).mono ?_
 rintro e w' ⟨rfl, rfl⟩
 go_wp2
 go_end0
 exact ⟨rfl, rfl⟩
theorem Sl.set1 {C i : Nat} {F : List Nat} {W : World} {a : Option Addr} {u : Value} {l : List UInt8} (h : Sl W a l F) (hC : C ∉ F) : Sl (W.setCell ⟨C, i, none⟩ u) a l F :=
 h.off (Off.of_only ((Only.refl C W).set i u)) (fun x hx hm => by simp at hm; subst hm; exact hC hx)
theorem told_any (w0 : World) (d : Nat) (a : Option Addr) (c : Nat) (su n : Int) (l : List UInt8) (F : List Nat) (hl : l.length <= 3000000) (hc : l.length <= c /\ c <= maxLen) (w : World) (hw : Below w0.heap.size w0 w) (hd : w0.heap.size <= d)
 (h : Blk w d 235 #[.int .i32 0, .int .u32 0, .slice a l.length c, .int .i64 su, .int .i64 n]) (hs : Sl w a l F) (hF : ∀ x ∈ F, w0.heap.size <= x) (hn : d ∉ F) :
 Calls Tryz.prog 138 #[.pointer (some ⟨d, 0, none⟩)] w fun e w' => e = .returned (.agg #[.slice a l.length c, .int .i64 (if 0 < n then (l.length : Int) else su)]) /\ Below w0.heap.size w0 w' /\ NewB w0.heap.size w' (.slice a l.length c) l := by
 have hz := hw.size
 have lt := hs.lt
 obtain ⟨z, hz0⟩ : ∃ z, z = w.heap.size := ⟨_, rfl⟩
 have r : Blk (w.alloc (.cells #[.slice none 0 0, .int .i64 0] 39)) z 39 #[.slice none 0 0, .int .i64 0] := hz0 ▸ Blk.new w 39 #[.slice none 0 0, .int .i64 0]
 have hr : z ∉ F := fun e => by have := lt _ e; omega
 have hne : d ≠ z := fun e => by have := h.lt; omega
 have hzz : w0.heap.size <= z := by omega
 have h1 := h.alloc (.cells #[.slice none 0 0, .int .i64 0] 39)
 obtain ⟨h0, -, -, -, -⟩ := h1.row5d
 have f0 := h1.thaw 0
 have h2 : Blk ((w.alloc (.cells #[.slice none 0 0, .int .i64 0] 39)).setCell ⟨d, 0, none⟩ (.int .i32 1)) d 235 #[.int .i32 1, .int .u32 0, .slice a l.length c, .int .i64 su, .int .i64 n] := h1.setAt 0 (.int .i32 1)
 have r2 := r.other (B' := d) (fun e => hne e.symm) 0 (.int .i32 1)
 have g2 : Below w0.heap.size w0 ((w.alloc (.cells #[.slice none 0 0, .int .i64 0] 39)).setCell ⟨d, 0, none⟩ (.int .i32 1)) := Qam (hw.alloc hz _) hd _
 have s2 : Sl ((w.alloc (.cells #[.slice none 0 0, .int .i64 0] 39)).setCell ⟨d, 0, none⟩ (.int .i32 1)) a l F := (hs.below (Qaa (Below.refl _ _) _)).off (Off.of_only ((Only.refl d _).set 0 (.int .i32 1))) (fun x hx e => by simp at e; subst e; exact hn hx)
 have HF := hidP hF
 clear hs lt hF
 go_enter_defers Tryz.func138, Tryz.ntmps138
 go_wp2_with fail
 refine (lock_free muLib ⟨d, 0, none⟩ _ h0 f0).mono ?_
 rintro e w' ⟨rfl, rfl⟩
 rw [← hz0]
 generalize (w.alloc (.cells #[.slice none 0 0, .int .i64 0] 39)).setCell ⟨d, 0, none⟩ (.int .i32 1) = W2 at h2 r2 g2 s2 ⊢
 have S2 := hidP s2
 clear h0 f0 h1 h r hw s2 hz0 hz
 obtain ⟨c0, c1, c2, c3, c4⟩ := h2.row5d
 obtain ⟨r0, r1⟩ := r2.row2
 have q2 := h2.lt
 have q3 := r2.lt
 have k0 := r2.thaw 0
 have k1 := r2.thaw 1
 have k3 := h2.thaw 3
 have k4 := h2.thaw 0
 have hne' : ¬ z = d := fun e => hne e.symm
 go_wp2_with fail
 refine (load64_any d n W2 c4).mono ?_
 rintro e w' ⟨rfl, rfl⟩
 by_cases hn0 : 0 < n
 . have R := ((r2.other (B' := d) hne' 3 (.int .i64 (l.length : Int))).setAt 0 (.slice a l.length c)).setAt 1 (.int .i64 (l.length : Int))
   have R1 := R.other (B' := d) hne' 0 (.int .i32 0)
   have D3 : Blk (w'.setCell ⟨d, 3, none⟩ (.int .i64 (l.length : Int))) d 235 #[.int .i32 1, .int .u32 0, .slice a l.length c, .int .i64 (l.length : Int), .int .i64 n] := h2.setAt 3 _
   have D4 := (D3.other (B' := z) hne 0 (.slice a l.length c)).other (B' := z) hne 1 (.int .i64 (l.length : Int))
   obtain ⟨x0, x1⟩ := Blk.row2 R1
   obtain ⟨y0, -, -, -, -⟩ := D4.row5d
   obtain ⟨-, -, y2, y3, -⟩ := D3.row5d
   have t0 := D4.thaw 0
   clear R R1 D3 D4
   go_wp2
   refine leaves_cons (f := 173) (args := #[.pointer (some ⟨d, 0, none⟩)]) (by simp) (by simp [go_sem]) ?_
   refine (unlock_deferred muLib ⟨d, 0, none⟩ .returning _ y0 t0).mono ?_
   rintro e u' w'' ⟨rfl, rfl, rfl⟩
   refine ⟨.agg #[.slice a l.length c, .int .i64 (l.length : Int)], ?_, rfl, ?_, ?_⟩
   . simp only [results, Tryz.results138]
     simp [go_sem, x0, x1]
   . exact Qam (Qam (Qam (Qam g2 hd _) hzz _) hzz _) hd _
   . exact ⟨a, c, F, rfl, hc.1, hc.2, Sl.set1 (Sl.set1 (Sl.set1 (Sl.set1 S2.out hn) hr) hr) hn, HF.out⟩
 . have R := (r2.setAt 0 (.slice a l.length c)).setAt 1 (.int .i64 su)
   have R1 := R.other (B' := d) hne' 0 (.int .i32 0)
   have D4 := (h2.other (B' := z) hne 0 (.slice a l.length c)).other (B' := z) hne 1 (.int .i64 su)
   obtain ⟨x0, x1⟩ := Blk.row2 R1
   obtain ⟨y0, -, -, -, -⟩ := D4.row5d
   have t0 := D4.thaw 0
   clear R R1 D4
   go_wp2
   refine leaves_cons (f := 173) (args := #[.pointer (some ⟨d, 0, none⟩)]) (by simp) (by simp [go_sem]) ?_
   refine (unlock_deferred muLib ⟨d, 0, none⟩ .returning _ y0 t0).mono ?_
   rintro e u' w'' ⟨rfl, rfl, rfl⟩
   refine ⟨.agg #[.slice a l.length c, .int .i64 su], ?_, rfl, ?_, ?_⟩
   . simp only [results, Tryz.results138]
     simp [go_sem, x0, x1]
   . exact Qam (Qam (Qam g2 hzz _) hzz _) hd _
   . exact ⟨a, c, F, rfl, hc.1, hc.2, Sl.set1 (Sl.set1 (Sl.set1 S2.out hr) hr) hn, HF.out⟩
theorem sl_of_own {B : Nat} {w : World} {a : Option Addr} {c : Nat} {L : List UInt8} {t : TypeId} (h : w.ownsRow B t 1 (.slice a L.length c) L.length (flat L)) : ∃ F, Sl w a L F /\ (∀ x ∈ F, B <= x) /\ (L.length <= c /\ c <= maxLen) /\ ∀ d, some d ≠ (Value.slice a L.length c).ownBlock -> d ∉ F := by
 rcases h.2 with ⟨e, h0⟩ | ⟨g, c', cur, e, hB, hg, hc, hm, hsz, ht⟩
 . have : L = [] := List.length_eq_zero_iff.1 h0
   subst this
   cases e
   exact ⟨[], .inl ⟨rfl, rfl⟩, by simp, ⟨by simp, by simp [maxLen]⟩, by simp⟩
 . have hf := Qd1 (α := UInt8) (t := t) hg hB hc hsz ht
   cases e
   by_cases h0 : L = []
   . exact ⟨[], .inl ⟨h0, rfl⟩, by simp, ⟨hc, hm⟩, by simp⟩
   . obtain ⟨A', c2, e2, _, h1⟩ := hf
     cases e2
     obtain ⟨b, o, e3, hB', hb, hi, hth⟩ := h1.resolve_left h0
     cases e3
     exact ⟨[g], .inr ⟨g, 0, rfl, rfl, hb, hi, hth⟩, by simpa using hB', ⟨hc, hm⟩, fun d hd hm => by simp at hm; subst hm; exact hd rfl⟩
theorem Qi3 (su : Int) (A : Option Addr) (cap : Nat) (l : List UInt8) (hl : l.length <= 1048576) (w : World) (hA : At w A l) :
 Calls Tryz.prog 92 #[.agg #[.slice A l.length cap, .int .i64 su]] w fun e w' => ∃ v, e = .returned (.agg #[v, .int .i64 (syncS su l.length)]) /\ NewB w.heap.size w' v l /\ Below w.heap.size w w' := by
 have HA := hidP hA
 have HD : Hid (∀ W : World, Calls Tryz.prog 54 #[.agg #[.slice A l.length cap, .int .i64 su]] W fun e w' => e = .returned (.bool (Qd5 su l.length)) /\ Below W.heap.size W w') := fun W => Qdn su A l.length cap (by omega) W
 clear hA
 have hS : Hid (syncS su l.length = if Qd5 su l.length then (l.length : Int) else su) := rfl
 generalize syncS su l.length = fs at hS ⊢
 generalize Qd5 su l.length = bb at HD hS
 have B0 : Below w.heap.size w ((w.alloc (.cells #[.slice A l.length cap, .int .i64 su] 39)).alloc (.cells #[.slice none 0 0, .int .i64 0] 39)) := Qaa (Qaa (Below.refl _ _) _) _
 have p := (Blk.new w 39 #[.slice A l.length cap, .int .i64 su]).alloc (.cells #[.slice none 0 0, .int .i64 0] 39)
 have r := Blk.new (w.alloc (.cells #[.slice A l.length cap, .int .i64 su] 39)) 39 #[.slice none 0 0, .int .i64 0]
 rw [World.size_alloc] at r
 go_enter Tryz.func92, Tryz.ntmps92
 go_wp2_with fail
 generalize (w.alloc (.cells #[.slice A l.length cap, .int .i64 su] 39)).alloc (.cells #[.slice none 0 0, .int .i64 0] 39) = W0 at p r B0 ⊢
 have zr := r.lt
 have rW := r
 have z0 := B0.size
 refine (Qkw su A cap l (by omega) _ (HA.out.below B0)).mono ?_
 rintro e w1 ⟨d, a, c, rfl, v1, o1, hd, n1, g1⟩
 have B1 := hidP g1
 replace p := p.below g1 p.lt
 replace r := r.below g1 r.lt
 have O1 := hidP o1
 clear o1 g1
 obtain ⟨u0, u1⟩ := p.row2
 go_wp2_with fail
 refine (HD.out _).mono ?_
 rintro e w2 ⟨rfl, g2⟩
 have B2 : Hid (Below W0.heap.size W0 w2) := via0 g2 B1.out
 replace p := p.below g2 p.lt
 replace r := r.below g2 r.lt
 have v2 := v1.below g2 v1.lt
 obtain ⟨F, s2, hF, hc, hnF⟩ := sl_of_own (Qcu O1.out g2)
 have dF := hnF d n1
 have S2 := hidP s2
 have HF := hidP hF
 clear u0 u1 g2 v1 O1 hnF s2 hF B1
 cases bb
 . have eS : fs = su := hS.out
   subst eS
   go_wp2_with fail
   refine (told_any W0 d a c fs 0 l F (by omega) hc w2 B2.out hd v2 S2.out HF.out dF).mono ?_
   rintro e w4 ⟨rfl, g4, n4⟩
   have r4 := rW.below g4 zr
   have R := (r4.setAt 0 (.slice a l.length c)).setAt 1 (.int .i64 fs)
   obtain ⟨e0, e1⟩ := Blk.row2 R
   obtain ⟨x0, x1⟩ := r4.row2
   have f0 := r4.thaw 0
   have f1 := r4.thaw 1
   have N4 := hidP n4
   have B4 : Hid (Below w.heap.size w w4) := B0.trans (g4.mono z0)
   clear R n4 g4
   go_wp2
   exact bodyPost_ret (v := .agg #[.slice a l.length c, .int .i64 fs]) (by simp [results, Tryz.results92, go_sem, e0, e1]) rfl
    ⟨_, rfl, Qih (Qer (Qer N4.out zr) zr) z0, Qam (Qam B4.out (by omega) _) (by omega) _⟩
 . have eS : fs = (l.length : Int) := hS.out
   subst eS
   obtain ⟨-, -, -, -, c4⟩ := v2.row5d
   have k4 := v2.thaw 4
   have v3 : Blk (w2.setCell ⟨d, 4, none⟩ (.int .i64 1)) d 235 #[.int .i32 0, .int .u32 0, .slice a l.length c, .int .i64 su, .int .i64 1] := v2.setAt 4 _
   have s3 := hidP (Sl.set1 (i := 4) (u := .int .i64 1) S2.out dF)
   have b3 := hidP (Qam (i := 4) B2.out hd (.int .i64 1))
   go_wp2_with fail
   refine (Qiz d w2 c4 k4).mono ?_
   rintro e w3 ⟨rfl, rfl⟩
   generalize w2.setCell ⟨d, 4, none⟩ (.int .i64 1) = w3 at v3 s3 b3 ⊢
   clear c4 k4
   go_wp2_with fail
   refine (told_any W0 d a c su 1 l F (by omega) hc w3 b3.out hd v3 s3.out HF.out dF).mono ?_
   rintro e w4 ⟨rfl, g4, n4⟩
   have r4 := rW.below g4 zr
   have R := (r4.setAt 0 (.slice a l.length c)).setAt 1 (.int .i64 (l.length : Int))
   obtain ⟨e0, e1⟩ := Blk.row2 R
   obtain ⟨x0, x1⟩ := r4.row2
   have f0 := r4.thaw 0
   have f1 := r4.thaw 1
   have N4 := hidP n4
   have B4 : Hid (Below w.heap.size w w4) := B0.trans (g4.mono z0)
   clear R n4 g4
   go_wp2
   exact bodyPost_ret (v := .agg #[.slice a l.length c, .int .i64 (l.length : Int)]) (by simp [results, Tryz.results92, go_sem, e0, e1]) rfl
    ⟨_, rfl, Qih (Qer (Qer N4.out zr) zr) z0, Qam (Qam B4.out (by omega) _) (by omega) _⟩
def setB (ro wi le ke : Int) : Bool := inB ro 1 4 && inB wi 1 5 && inB le 1 8 && inB ke 0 60
theorem Qcr {ro wi le ke : Int} (h : setB ro wi le ke = true) : 1 <= ro /\ ro <= 4 := by
 simp only [setB, inB, Bool.and_eq_true, decide_eq_true_eq] at h; exact h.1.1.1
theorem Qjd (p q r s : Bool) : p = false ∨ (p = true /\ q = false) ∨ (p = true /\ q = true /\ r = false) ∨ (p = true /\ q = true /\ r = true /\ s = false) ∨ (p = true /\ q = true /\ r = true /\ s = true) := by
 cases p<;>cases q<;>cases r<;>cases s<;>simp
theorem Qa7 (ro wi le ke : Int) (w : World) :
 Calls Tryz.prog 10 #[.agg #[.int .i64 ro, .int .i64 wi, .int .i64 le, .int .i64 ke]] w fun e w' => e = .returned (.bool (setB ro wi le ke)) /\ Below w.heap.size w w' := by
 rcases Qjd (inB ro 1 4) (inB wi 1 5) (inB le 1 8) (inB ke 0 60) with h1 | ⟨h1, h2⟩ | ⟨h1, h2, h3⟩ | ⟨h1, h2, h3, h4⟩ | ⟨h1, h2, h3, h4⟩
 all_goals
  go_enter Tryz.func10, Tryz.ntmps10
  go_wp2_with (go_at_call 11; refine (in_any _ _ _ _).mono ?_; rintro e w' ⟨rfl, rfl⟩)
  go_ret
  exact ⟨by simp [setB, *], by repeat (first | exact Below.refl _ _ | refine Below.drew ?_ | refine Below.alloc ?_ (by simp<;>omega) _)⟩
theorem Qbw (ro wi le ke : Int) (w : World) :
 Calls Tryz.prog 99 #[.agg #[.int .i64 ro, .int .i64 wi, .int .i64 le, .int .i64 ke]] w fun e w' => e = .returned (.bool (setB ro wi le ke)) /\ Below w.heap.size w w' := by
 rcases Qjd (inB ro 1 4) (inB wi 1 5) (inB le 1 8) (inB ke 0 60) with h1 | ⟨h1, h2⟩ | ⟨h1, h2, h3⟩ | ⟨h1, h2, h3, h4⟩ | ⟨h1, h2, h3, h4⟩
 all_goals
  go_enter Tryz.func99, Tryz.ntmps99
  go_wp2_with (go_at_call 44; refine (within_any _ _ _ _).mono ?_; rintro e w' ⟨rfl, rfl⟩)
  go_ret
  exact ⟨by simp [setB, *], by repeat (first | exact Below.refl _ _ | refine Below.drew ?_ | refine Below.alloc ?_ (by simp<;>omega) _)⟩
theorem Qdp (ro wi le ke : Int) (w : World) :
 Calls Tryz.prog 5 #[.agg #[.int .i64 ro, .int .i64 wi, .int .i64 le, .int .i64 ke]] w fun e w' => e = .returned (.agg #[.int .i64 ro, .int .i64 wi, .int .i64 le, .int .i64 ke]) /\ Below w.heap.size w w' := by
 go_enter Tryz.func5, Tryz.ntmps5
 go_wp2
 exact bodyPost_ret (v := .agg #[.int .i64 ro, .int .i64 wi, .int .i64 le, .int .i64 ke]) (by simp [results, Tryz.results5, go_sem]) rfl
  ⟨rfl, by repeat (first | exact Below.refl _ _ | refine Below.drew ?_ | refine Below.alloc ?_ (by simp<;>omega) _)⟩
theorem cellsSetup : Tryz.prog.cellsOf 23 = 4 := by kernel_rfl
theorem openSetup {H : Type} {enc : TypeId × Value -> H} {W : World} {base b0 : Nat} {r : Reach} {spare : Nat -> Bool} {held : Bool} {v : Value} {d : DataW H} {p : List MemPlace}
 (hv : Value.okWide Tryz.prog W r b0 23 v) (h : DataW.Trod enc Tryz.prog W base spare held 23 v d p) :
 ∃ (ro wi le ke : Int), v = .agg #[.int .i64 ro, .int .i64 wi, .int .i64 le, .int .i64 ke] /\ I64 ro /\ I64 wi /\ I64 le /\ I64 ke := by
 obtain ⟨c0, c1, c2, c3, y0, y1, y2, y3, m, rfl, rfl, rfl, hy0, hy1, hy2, hy3⟩ := open_agg4 Tryz.underlying23 (by kernel_rfl) cellsSetup hv h
 obtain ⟨a, e0, rfl, wa⟩ := DataW.trod_int Tryz.underlying3 hy0
 obtain ⟨b, e1, rfl, wb⟩ := DataW.trod_int Tryz.underlying3 hy1
 obtain ⟨c, e2, rfl, wc⟩ := DataW.trod_int Tryz.underlying3 hy2
 obtain ⟨d, e3, rfl, wd⟩ := DataW.trod_int Tryz.underlying3 hy3
 simp at e0 e1 e2 e3
 subst e0 e1 e2 e3
 exact ⟨a, b, c, d, rfl, Qgp wa, Qgp wb, Qgp wc, Qgp wd⟩
end Go.Proofs.YtglegpkcikacoaaGreatDoor.Gen
