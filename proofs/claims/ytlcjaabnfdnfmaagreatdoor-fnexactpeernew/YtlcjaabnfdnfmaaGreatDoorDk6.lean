/-
  The program's drive behind its lock: put to, torn, told. No condition but that there are at most 1048576 bytes.
-/
import Derived.Test.YtlcjaabnfdnfmaaGreatDoorRowTo
set_option linter.unusedVariables false
set_option linter.unusedSimpArgs false
set_option maxRecDepth 100000
set_option maxHeartbeats 8000000
namespace Go.Proofs.YtlcjaabnfdnfmaaGreatDoor.Gen
open ChangeShapes WideShapes ChangeAt RowKit Joins Deep Base MuLone
theorem Sl.set1 {C i : Nat} {F : List Nat} {W : World} {a : Option Addr} {u : Value} {l : List UInt8} (h : Sl W a l F) (hC : C ∉ F) : Sl (W.setCell ⟨C, i, none⟩ u) a l F :=
 h.off (Off.of_only ((Only.refl C W).set i u)) (fun x hx hm => by simp at hm; subst hm; exact hC hx)
theorem told_any (w0 : World) (d : Nat) (a : Option Addr) (c : Nat) (su n : Int) (l : List UInt8) (F : List Nat) (hl : l.length <= 3000000) (hc : l.length <= c /\ c <= maxLen) (w : World) (hw : Below w0.heap.size w0 w) (hd : w0.heap.size <= d)
 (h : Blk w d 235 #[.int .i32 0, .int .u32 0, .slice a l.length c, .int .i64 su, .int .i64 n]) (hs : Sl w a l F) (hF : ∀ x ∈ F, w0.heap.size <= x) (hn : d ∉ F) :
 Calls Tryz.prog 138 #[.pointer (some ⟨d, 0, none⟩)] w fun e w' => e = .returned (.agg #[.slice a l.length c, .int .i64 (if 0 < n then (l.length : Int) else su)]) /\ Below w0.heap.size w0 w' /\ NewB w0.heap.size w' (.slice a l.length c) l := by
 have hz := hw.size
 have lt := hs.lt
 obtain ⟨z, hz0⟩ : ∃ z, z = w.heap.size := ⟨_, rfl⟩
 have r : Blk (w.alloc (.cells #[.slice none 0 0, .int .i64 0] 39)) z 39 #[.slice none 0 0, .int .i64 0] := hz0 ▸ Blk.new w 39 #[.slice none 0 0, .int .i64 0]
 have hr : z ∉ F := fun e => by have := lt _ e; omega
 have hne : d ≠ z := fun e => by have := h.lt; omega
 have hzz : w0.heap.size <= z := by omega
 have h1 := h.alloc (.cells #[.slice none 0 0, .int .i64 0] 39)
 obtain ⟨h0, -, -, -, -⟩ := h1.row5d
 have f0 := h1.thaw 0
 have h2 : Blk ((w.alloc (.cells #[.slice none 0 0, .int .i64 0] 39)).setCell ⟨d, 0, none⟩ (.int .i32 1)) d 235 #[.int .i32 1, .int .u32 0, .slice a l.length c, .int .i64 su, .int .i64 n] := h1.setAt 0 (.int .i32 1)
 have r2 := r.other (B' := d) (fun e => hne e.symm) 0 (.int .i32 1)
 have g2 : Below w0.heap.size w0 ((w.alloc (.cells #[.slice none 0 0, .int .i64 0] 39)).setCell ⟨d, 0, none⟩ (.int .i32 1)) := Qam (hw.alloc hz _) hd _
 have s2 : Sl ((w.alloc (.cells #[.slice none 0 0, .int .i64 0] 39)).setCell ⟨d, 0, none⟩ (.int .i32 1)) a l F := (hs.below (Qaa (Below.refl _ _) _)).off (Off.of_only ((Only.refl d _).set 0 (.int .i32 1))) (fun x hx e => by simp at e; subst e; exact hn hx)
 have HF := hidP hF
 clear hs lt hF
 go_enter_defers Tryz.func138, Tryz.ntmps138
 go_wp2_with fail
 refine (lock_free muLib ⟨d, 0, none⟩ _ h0 f0).mono ?_
 rintro e w' ⟨rfl, rfl⟩
 rw [← hz0]
 generalize (w.alloc (.cells #[.slice none 0 0, .int .i64 0] 39)).setCell ⟨d, 0, none⟩ (.int .i32 1) = W2 at h2 r2 g2 s2 ⊢
 have S2 := hidP s2
 clear h0 f0 h1 h r hw s2 hz0 hz
 obtain ⟨c0, c1, c2, c3, c4⟩ := h2.row5d
 obtain ⟨r0, r1⟩ := r2.row2
 have q2 := h2.lt
 have q3 := r2.lt
 have k0 := r2.thaw 0
 have k1 := r2.thaw 1
 have k3 := h2.thaw 3
 have k4 := h2.thaw 0
 have hne' : ¬ z = d := fun e => hne e.symm
 go_wp2_with fail
 refine (load64_any d n W2 c4).mono ?_
 rintro e w' ⟨rfl, rfl⟩
 by_cases hn0 : 0 < n
 . have R := ((r2.other (B' := d) hne' 3 (.int .i64 (l.length : Int))).setAt 0 (.slice a l.length c)).setAt 1 (.int .i64 (l.length : Int))
   have R1 := R.other (B' := d) hne' 0 (.int .i32 0)
   have D3 : Blk (w'.setCell ⟨d, 3, none⟩ (.int .i64 (l.length : Int))) d 235 #[.int .i32 1, .int .u32 0, .slice a l.length c, .int .i64 (l.length : Int), .int .i64 n] := h2.setAt 3 _
   have D4 := (D3.other (B' := z) hne 0 (.slice a l.length c)).other (B' := z) hne 1 (.int .i64 (l.length : Int))
   obtain ⟨x0, x1⟩ := Blk.row2 R1
   obtain ⟨y0, -, -, -, -⟩ := D4.row5d
   obtain ⟨-, -, y2, y3, -⟩ := D3.row5d
   have t0 := D4.thaw 0
   clear R R1 D3 D4
   go_wp2
   refine leaves_cons (f := 173) (args := #[.pointer (some ⟨d, 0, none⟩)]) (by simp) (by simp [go_sem]) ?_
   refine (unlock_deferred muLib ⟨d, 0, none⟩ .returning _ y0 t0).mono ?_
   rintro e u' w'' ⟨rfl, rfl, rfl⟩
   refine ⟨.agg #[.slice a l.length c, .int .i64 (l.length : Int)], ?_, rfl, ?_, ?_⟩
   . simp only [results, Tryz.results138]
     simp [go_sem, x0, x1]
   . exact Qam (Qam (Qam (Qam g2 hd _) hzz _) hzz _) hd _
   . exact ⟨a, c, F, rfl, hc.1, hc.2, Sl.set1 (Sl.set1 (Sl.set1 (Sl.set1 S2.out hn) hr) hr) hn, HF.out⟩
 . have R := (r2.setAt 0 (.slice a l.length c)).setAt 1 (.int .i64 su)
   have R1 := R.other (B' := d) hne' 0 (.int .i32 0)
   have D4 := (h2.other (B' := z) hne 0 (.slice a l.length c)).other (B' := z) hne 1 (.int .i64 su)
   obtain ⟨x0, x1⟩ := Blk.row2 R1
   obtain ⟨y0, -, -, -, -⟩ := D4.row5d
   have t0 := D4.thaw 0
   clear R R1 D4
   go_wp2
   refine leaves_cons (f := 173) (args := #[.pointer (some ⟨d, 0, none⟩)]) (by simp) (by simp [go_sem]) ?_
   refine (unlock_deferred muLib ⟨d, 0, none⟩ .returning _ y0 t0).mono ?_
   rintro e u' w'' ⟨rfl, rfl, rfl⟩
   refine ⟨.agg #[.slice a l.length c, .int .i64 su], ?_, rfl, ?_, ?_⟩
   . simp only [results, Tryz.results138]
     simp [go_sem, x0, x1]
   . exact Qam (Qam (Qam g2 hzz _) hzz _) hd _
   . exact ⟨a, c, F, rfl, hc.1, hc.2, Sl.set1 (Sl.set1 (Sl.set1 S2.out hr) hr) hn, HF.out⟩
end Go.Proofs.YtlcjaabnfdnfmaaGreatDoor.Gen
namespace Go.Proofs.YtlcjaabnfdnfmaaGreatDoor.Gen
open ChangeShapes WideShapes ChangeAt RowKit Joins Deep Base MuLone
theorem sl_of_own {B : Nat} {w : World} {a : Option Addr} {c : Nat} {L : List UInt8} {t : TypeId} (h : w.ownsRow B t 1 (.slice a L.length c) L.length (flat L)) : ∃ F, Sl w a L F /\ (∀ x ∈ F, B <= x) /\ (L.length <= c /\ c <= maxLen) /\ ∀ d, some d ≠ (Value.slice a L.length c).ownBlock -> d ∉ F := by
 rcases h.2 with ⟨e, h0⟩ | ⟨g, c', cur, e, hB, hg, hc, hm, hsz, ht⟩
 . have : L = [] := List.length_eq_zero_iff.1 h0
   subst this
   cases e
   exact ⟨[], .inl ⟨rfl, rfl⟩, by simp, ⟨by simp, by simp [maxLen]⟩, by simp⟩
 . have hf := Qd1 (α := UInt8) (t := t) hg hB hc hsz ht
   cases e
   by_cases h0 : L = []
   . exact ⟨[], .inl ⟨h0, rfl⟩, by simp, ⟨hc, hm⟩, by simp⟩
   . obtain ⟨A', c2, e2, _, h1⟩ := hf
     cases e2
     obtain ⟨b, o, e3, hB', hb, hi, hth⟩ := h1.resolve_left h0
     cases e3
     exact ⟨[g], .inr ⟨g, 0, rfl, rfl, hb, hi, hth⟩, by simpa using hB', ⟨hc, hm⟩, fun d hd hm => by simp at hm; subst hm; exact hd rfl⟩
theorem Qi3 (su : Int) (A : Option Addr) (cap : Nat) (l : List UInt8) (hl : l.length <= 1048576) (w : World) (hA : At w A l) :
 Calls Tryz.prog 92 #[.agg #[.slice A l.length cap, .int .i64 su]] w fun e w' => ∃ v, e = .returned (.agg #[v, .int .i64 (syncS su l.length)]) /\ NewB w.heap.size w' v l /\ Below w.heap.size w w' := by
 have HA := hidP hA
 have HD : Hid (∀ W : World, Calls Tryz.prog 54 #[.agg #[.slice A l.length cap, .int .i64 su]] W fun e w' => e = .returned (.bool (Qd5 su l.length)) /\ Below W.heap.size W w') := fun W => Qdn su A l.length cap (by omega) W
 clear hA
 have hS : Hid (syncS su l.length = if Qd5 su l.length then (l.length : Int) else su) := rfl
 generalize syncS su l.length = fs at hS ⊢
 generalize Qd5 su l.length = bb at HD hS
 have B0 : Below w.heap.size w ((w.alloc (.cells #[.slice A l.length cap, .int .i64 su] 39)).alloc (.cells #[.slice none 0 0, .int .i64 0] 39)) := Qaa (Qaa (Below.refl _ _) _) _
 have p := (Blk.new w 39 #[.slice A l.length cap, .int .i64 su]).alloc (.cells #[.slice none 0 0, .int .i64 0] 39)
 have r := Blk.new (w.alloc (.cells #[.slice A l.length cap, .int .i64 su] 39)) 39 #[.slice none 0 0, .int .i64 0]
 rw [World.size_alloc] at r
 go_enter Tryz.func92, Tryz.ntmps92
 go_wp2_with fail
 generalize (w.alloc (.cells #[.slice A l.length cap, .int .i64 su] 39)).alloc (.cells #[.slice none 0 0, .int .i64 0] 39) = W0 at p r B0 ⊢
 have zr := r.lt
 have rW := r
 have z0 := B0.size
 refine (Qkw su A cap l (by omega) _ (HA.out.below B0)).mono ?_
 rintro e w1 ⟨d, a, c, rfl, v1, o1, hd, n1, g1⟩
 have B1 := hidP g1
 replace p := p.below g1 p.lt
 replace r := r.below g1 r.lt
 have O1 := hidP o1
 clear o1 g1
 obtain ⟨u0, u1⟩ := p.row2
 go_wp2_with fail
 refine (HD.out _).mono ?_
 rintro e w2 ⟨rfl, g2⟩
 have B2 : Hid (Below W0.heap.size W0 w2) := via0 g2 B1.out
 replace p := p.below g2 p.lt
 replace r := r.below g2 r.lt
 have v2 := v1.below g2 v1.lt
 obtain ⟨F, s2, hF, hc, hnF⟩ := sl_of_own (Qcu O1.out g2)
 have dF := hnF d n1
 have S2 := hidP s2
 have HF := hidP hF
 clear u0 u1 g2 v1 O1 hnF s2 hF B1
 cases bb
 . have eS : fs = su := hS.out
   subst eS
   go_wp2_with fail
   refine (told_any W0 d a c fs 0 l F (by omega) hc w2 B2.out hd v2 S2.out HF.out dF).mono ?_
   rintro e w4 ⟨rfl, g4, n4⟩
   have r4 := rW.below g4 zr
   have R := (r4.setAt 0 (.slice a l.length c)).setAt 1 (.int .i64 fs)
   obtain ⟨e0, e1⟩ := Blk.row2 R
   obtain ⟨x0, x1⟩ := r4.row2
   have f0 := r4.thaw 0
   have f1 := r4.thaw 1
   have N4 := hidP n4
   have B4 : Hid (Below w.heap.size w w4) := B0.trans (g4.mono z0)
   clear R n4 g4
   go_wp2
   exact bodyPost_ret (v := .agg #[.slice a l.length c, .int .i64 fs]) (by simp [results, Tryz.results92, go_sem, e0, e1]) rfl
    ⟨_, rfl, Qih (Qer (Qer N4.out zr) zr) z0, Qam (Qam B4.out (by omega) _) (by omega) _⟩
 . have eS : fs = (l.length : Int) := hS.out
   subst eS
   obtain ⟨-, -, -, -, c4⟩ := v2.row5d
   have k4 := v2.thaw 4
   have v3 : Blk (w2.setCell ⟨d, 4, none⟩ (.int .i64 1)) d 235 #[.int .i32 0, .int .u32 0, .slice a l.length c, .int .i64 su, .int .i64 1] := v2.setAt 4 _
   have s3 := hidP (Sl.set1 (i := 4) (u := .int .i64 1) S2.out dF)
   have b3 := hidP (Qam (i := 4) B2.out hd (.int .i64 1))
   go_wp2_with fail
   refine (Qiz d w2 c4 k4).mono ?_
   rintro e w3 ⟨rfl, rfl⟩
   generalize w2.setCell ⟨d, 4, none⟩ (.int .i64 1) = w3 at v3 s3 b3 ⊢
   clear c4 k4
   go_wp2_with fail
   refine (told_any W0 d a c su 1 l F (by omega) hc w3 b3.out hd v3 s3.out HF.out dF).mono ?_
   rintro e w4 ⟨rfl, g4, n4⟩
   have r4 := rW.below g4 zr
   have R := (r4.setAt 0 (.slice a l.length c)).setAt 1 (.int .i64 (l.length : Int))
   obtain ⟨e0, e1⟩ := Blk.row2 R
   obtain ⟨x0, x1⟩ := r4.row2
   have f0 := r4.thaw 0
   have f1 := r4.thaw 1
   have N4 := hidP n4
   have B4 : Hid (Below w.heap.size w w4) := B0.trans (g4.mono z0)
   clear R n4 g4
   go_wp2
   exact bodyPost_ret (v := .agg #[.slice a l.length c, .int .i64 (l.length : Int)]) (by simp [results, Tryz.results92, go_sem, e0, e1]) rfl
    ⟨_, rfl, Qih (Qer (Qer N4.out zr) zr) z0, Qam (Qam B4.out (by omega) _) (by omega) _⟩
end Go.Proofs.YtlcjaabnfdnfmaaGreatDoor.Gen
namespace Go.Proofs.YtlcjaabnfdnfmaaGreatDoor.Gen
open ChangeShapes WideShapes ChangeAt RowKit Joins Deep Base
structure En where
  term : Int
  who : Int
  seq : Int
  op : Int
  a : Int
  b : Int
  c : Int
  key : ByteArray
  text : ByteArray
instance : Inhabited En := ⟨⟨0, 0, 0, 0, 0, 0, 0, ⟨#[]⟩, ⟨#[]⟩⟩⟩
instance : Cel En where
  k := 9
  cs x := [.int .i64 x.term, .int .i64 x.who, .int .i64 x.seq, .int .i64 x.op, .int .i64 x.a, .int .i64 x.b, .int .i64 x.c, .string x.key, .string x.text]
  len _ := rfl
  one x u hu := by simp at hu; rcases hu with rfl | rfl | rfl | rfl | rfl | rfl | rfl | rfl | rfl<;>rfl
def En.fit (x : En) : Prop := x.key.size <= 9223372036854775807 /\ x.text.size <= 9223372036854775807
theorem In.getEn {w : World} {b o : Nat} {l : List En} (h : In w b o l) (n : Nat) (hi : n < l.length) :
 w.cell? ⟨b, o + n * 9, none⟩ = some (.int .i64 l[n].term) /\ w.cell? ⟨b, o + n * 9 + 1, none⟩ = some (.int .i64 l[n].who) /\ w.cell? ⟨b, o + n * 9 + 2, none⟩ = some (.int .i64 l[n].seq) /\ w.cell? ⟨b, o + n * 9 + 3, none⟩ = some (.int .i64 l[n].op) /\ w.cell? ⟨b, o + n * 9 + 4, none⟩ = some (.int .i64 l[n].a) /\ w.cell? ⟨b, o + n * 9 + 5, none⟩ = some (.int .i64 l[n].b) /\ w.cell? ⟨b, o + n * 9 + 6, none⟩ = some (.int .i64 l[n].c) /\ w.cell? ⟨b, o + n * 9 + 7, none⟩ = some (.string l[n].key) /\ w.cell? ⟨b, o + n * 9 + 8, none⟩ = some (.string l[n].text) :=
 ⟨h.cell n hi (f := 0) rfl, h.cell n hi (f := 1) rfl, h.cell n hi (f := 2) rfl, h.cell n hi (f := 3) rfl, h.cell n hi (f := 4) rfl, h.cell n hi (f := 5) rfl, h.cell n hi (f := 6) rfl, h.cell n hi (f := 7) rfl, h.cell n hi (f := 8) rfl⟩
theorem infoEn : (Tryz.prog.info? 112).map (fun i => (i.zero, i.size, i.bytes)) = some (some (.agg #[.int .i64 0, .int .i64 0, .int .i64 0, .int .i64 0, .int .i64 0, .int .i64 0, .int .i64 0, .string ⟨#[]⟩, .string ⟨#[]⟩]), 9, 88) := by kernel_rfl
theorem eqCmd_same (who seq op a b c : Int) (key text : ByteArray) (w : World) :
 Calls Tryz.prog 179 #[.agg #[.int .i64 who, .int .i64 seq, .int .i64 op, .int .i64 a, .int .i64 b, .int .i64 c, .string key, .string text], .agg #[.int .i64 who, .int .i64 seq, .int .i64 op, .int .i64 a, .int .i64 b, .int .i64 c, .string key, .string text]] w fun e w' => e = .returned (.bool true) /\ Below w.heap.size w w' := by
 go_enter Tryz.func179, Tryz.ntmps179
 go_wp2
 go_ret
 exact ⟨rfl, by repeat (first | exact Below.refl _ _ | assumption | refine via0 (by assumption) ?_ | refine Below.drew ?_ | refine Qaa ?_ _)⟩
theorem Qjk (term who seq op a b c : Int) (key text : ByteArray) (w : World) :
 Calls Tryz.prog 153 #[.agg #[.int .i64 term, .int .i64 who, .int .i64 seq, .int .i64 op, .int .i64 a, .int .i64 b, .int .i64 c, .string key, .string text], .agg #[.int .i64 term, .int .i64 who, .int .i64 seq, .int .i64 op, .int .i64 a, .int .i64 b, .int .i64 c, .string key, .string text]] w fun e w' => e = .returned (.bool true) /\ Below w.heap.size w w' := by
 go_enter Tryz.func153, Tryz.ntmps153
 go_wp2_with (go_at_call 179; refine (eqCmd_same _ _ _ _ _ _ _ _ _).mono ?_; rintro e w1 ⟨rfl, g1⟩)
 go_ret
 exact ⟨rfl, by repeat (first | exact Below.refl _ _ | assumption | refine via0 (by assumption) ?_ | refine Below.drew ?_ | refine Qaa ?_ _)⟩
theorem Qd4 (A A' : Option Addr) (cap cap' : Nat) (l : List En) (hl : l.length <= 9223372036854775807) (w : World) (hA : At w A l) (hA' : At w A' l) :
 Calls Tryz.prog 115 #[.slice A l.length cap, .slice A' l.length cap'] w fun e w' => e = .returned (.bool true) /\ Below w.heap.size w w' := by
 have HA := hidP hA
 have HA' := hidP hA'
 clear hA hA'
 go_enter Tryz.func115, Tryz.ntmps115
 go_wp2
 go_loopw [5] (fun i w' => ∃ (n : Nat), i = .int .i64 (n : Int) /\ n <= l.length /\ Below w.heap.size w w') (fun i _ => l.length - (intOf i).toNat)
 case atStart => exact ⟨0, rfl, by omega, Below.refl _ _⟩
 case round =>
  obtain ⟨n, rfl, hn, hbl⟩ := hrel
  by_cases hlt : n < l.length
  . obtain ⟨b, o, rfl, hbs, hin⟩ : ∃ b o, A = some ⟨b, o, none⟩ /\ b < w.heap.size /\ In w b o l := by
     rcases HA.out with h | h
     . subst h; simp at hlt
     . exact h
    obtain ⟨b', o', rfl, hbs', hin'⟩ : ∃ b o, A' = some ⟨b, o, none⟩ /\ b < w.heap.size /\ In w b o l := by
     rcases HA'.out with h | h
     . subst h; simp at hlt
     . exact h
    obtain ⟨c0, c1, c2, c3, c4, c5, c6, c7, c8⟩ := (hin.below hbs hbl).getEn n hlt
    obtain ⟨d0, d1, d2, d3, d4, d5, d6, d7, d8⟩ := (hin'.below hbs' hbl).getEn n hlt
    have hb1 : b < wr.heap.size := Nat.lt_of_lt_of_le hbs hbl.size
    have hb2 : b' < wr.heap.size := Nat.lt_of_lt_of_le hbs' hbl.size
    have hi0 : (0 : Int) <= (n : Int) := by omega
    have hi1 : (n : Int) < (l.length : Int) := by omega
    go_wp2
    go_region_held3 (fun w' => w'.cell? ⟨b, o + n * 9, none⟩ = some (.int .i64 l[n].term) /\ w'.cell? ⟨b, o + n * 9 + 1, none⟩ = some (.int .i64 l[n].who) /\ w'.cell? ⟨b, o + n * 9 + 2, none⟩ = some (.int .i64 l[n].seq) /\ w'.cell? ⟨b, o + n * 9 + 3, none⟩ = some (.int .i64 l[n].op) /\ w'.cell? ⟨b, o + n * 9 + 4, none⟩ = some (.int .i64 l[n].a) /\ w'.cell? ⟨b, o + n * 9 + 5, none⟩ = some (.int .i64 l[n].b) /\ w'.cell? ⟨b, o + n * 9 + 6, none⟩ = some (.int .i64 l[n].c) /\ w'.cell? ⟨b, o + n * 9 + 7, none⟩ = some (.string l[n].key) /\ w'.cell? ⟨b, o + n * 9 + 8, none⟩ = some (.string l[n].text) /\ w'.cell? ⟨b', o' + n * 9, none⟩ = some (.int .i64 l[n].term) /\ w'.cell? ⟨b', o' + n * 9 + 1, none⟩ = some (.int .i64 l[n].who) /\ w'.cell? ⟨b', o' + n * 9 + 2, none⟩ = some (.int .i64 l[n].seq) /\ w'.cell? ⟨b', o' + n * 9 + 3, none⟩ = some (.int .i64 l[n].op) /\ w'.cell? ⟨b', o' + n * 9 + 4, none⟩ = some (.int .i64 l[n].a) /\ w'.cell? ⟨b', o' + n * 9 + 5, none⟩ = some (.int .i64 l[n].b) /\ w'.cell? ⟨b', o' + n * 9 + 6, none⟩ = some (.int .i64 l[n].c) /\ w'.cell? ⟨b', o' + n * 9 + 7, none⟩ = some (.string l[n].key) /\ w'.cell? ⟨b', o' + n * 9 + 8, none⟩ = some (.string l[n].text) /\ wr.heap.size <= w'.heap.size)
     (first | (go_split_ands; refine ⟨?_, ?_, ?_, ?_, ?_, ?_, ?_, ?_, ?_, ?_, ?_, ?_, ?_, ?_, ?_, ?_, ?_, ?_, ?_⟩<;>first | assumption | exact (k1 _ _ hb1).trans (by assumption) | exact (k1 _ _ hb2).trans (by assumption) | exact s1 | (simp; done)) | go_keep)
     (first
      | (go_at_call 153; refine (Qjk _ _ _ _ _ _ _ _ _ _).mono ?_; rintro e w1 ⟨rfl, g1⟩; obtain ⟨k1, m1⟩ := Qaj g1; have s1 := g1.size))
    all_goals
     go_wp2
     exact ⟨⟨n + 1, by go_num, by omega, via0 g1 hbl.drew⟩, by simp [intOf]; omega⟩
  . go_wp2
    go_ret
    exact ⟨rfl, hbl⟩
end Go.Proofs.YtlcjaabnfdnfmaaGreatDoor.Gen
