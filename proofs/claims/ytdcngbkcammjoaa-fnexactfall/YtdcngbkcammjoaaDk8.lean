/-
  impl.Append, Sync, Fall: what they answer. No condition but that there are at most 1048576 bytes.
-/
import Derived.Test.YtdcngbkcammjoaaDk7
namespace Go.Proofs.Ytdcngbkcammjoaa.Gen
open Go.ChangeShapes Go.WideShapes Go.ChangeAt Go.RowKit Go.Joins Go.Deep Base Go.MuLone
set_option linter.unusedVariables false
set_option linter.unusedSimpArgs false

theorem sl_of_own {B : Nat} {w : World} {a : Option Addr} {c : Nat} {L : List UInt8} {t : TypeId} (h : w.ownsRow B t 1 (.slice a L.length c) L.length (flat L)) : ∃ F, Sl w a L F ∧ (∀ x ∈ F, B ≤ x) ∧ (L.length ≤ c ∧ c ≤ maxLen) ∧ ∀ d, some d ≠ (Value.slice a L.length c).ownBlock → d ∉ F := by
  rcases h.2 with ⟨e, h0⟩ | ⟨g, c', cur, e, hB, hg, hc, hm, hsz, ht⟩
  · have : L = [] := List.length_eq_zero_iff.1 h0
    subst this
    cases e
    exact ⟨[], .inl ⟨rfl, rfl⟩, by simp, ⟨by simp, by simp [maxLen]⟩, by simp⟩
  · have hf := fresh_of (α := UInt8) (t := t) hg hB hc hsz ht
    cases e
    by_cases h0 : L = []
    · exact ⟨[], .inl ⟨h0, rfl⟩, by simp, ⟨hc, hm⟩, by simp⟩
    · obtain ⟨A', c2, e2, _, h1⟩ := hf
      cases e2
      obtain ⟨b, o, e3, hB', hb, hi, hth⟩ := h1.resolve_left h0
      cases e3
      exact ⟨[g], .inr ⟨g, 0, rfl, rfl, hb, hi, hth⟩, by simpa using hB', ⟨hc, hm⟩, fun d hd hm => by simp at hm; subst hm; exact hd rfl⟩

theorem Sl.take8 {F : List Nat} {w : World} {a : Option Addr} {l : List UInt8} (h : Sl w a l F) (n : Nat) : ∃ F', Sl w a (l.take n) F' ∧ ∀ x ∈ F', x ∈ F := by
  rcases h with ⟨rfl, rfl⟩ | ⟨b, o, rfl, rfl, hb, hi, ht⟩
  · exact ⟨[], .inl ⟨by simp, rfl⟩, by simp⟩
  · refine ⟨[b], .inr ⟨b, o, rfl, rfl, hb, hi.take8 n, fun j hj => ht j ?_⟩, by simp⟩
    have : (l.take n).length ≤ l.length := by rw [List.length_take]; omega
    exact Nat.lt_of_lt_of_le hj (Nat.mul_le_mul_right _ this)

set_option maxRecDepth 100000 in
set_option maxHeartbeats 2000000 in
theorem implSync_any (su : Int) (A : Option Addr) (cap : Nat) (l : List UInt8) (hl : l.length ≤ 1048576) (w : World) (hA : At w A l) :
    Calls Try.prog 20 #[.agg #[.slice A l.length cap, .int .i64 su]] w fun e w' => ∃ v, e = .returned (.agg #[v, .int .i64 (syncS su l.length)]) ∧ NewB w.heap.size w' v l ∧ Below w.heap.size w w' := by
  have HA := hidP hA
  have HD : Hid (∀ W : World, Calls Try.prog 10 #[.agg #[.slice A l.length cap, .int .i64 su]] W fun e w' => e = .returned (.bool (diskB su l.length)) ∧ Below W.heap.size W w') := fun W => implDiskOk_any su A l.length cap (by omega) W
  clear hA
  have hS : Hid (syncS su l.length = if diskB su l.length then (l.length : Int) else su) := rfl
  generalize syncS su l.length = fs at hS ⊢
  generalize diskB su l.length = bb at HD hS
  have B0 : Below w.heap.size w ((w.alloc (.cells #[.slice A l.length cap, .int .i64 su] 27)).alloc (.cells #[.slice none 0 0, .int .i64 0] 27)) := alloc0 (alloc0 (Below.refl _ _) _) _
  have p := (Blk.new w 27 #[.slice A l.length cap, .int .i64 su]).alloc (.cells #[.slice none 0 0, .int .i64 0] 27)
  have r := Blk.new (w.alloc (.cells #[.slice A l.length cap, .int .i64 su] 27)) 27 #[.slice none 0 0, .int .i64 0]
  rw [World.size_alloc] at r
  go_enter Try.func20, Try.ntmps20
  go_wp2_with fail
  generalize (w.alloc (.cells #[.slice A l.length cap, .int .i64 su] 27)).alloc (.cells #[.slice none 0 0, .int .i64 0] 27) = W0 at p r B0 ⊢
  have zr := r.lt
  have rW := r
  have z0 := B0.size
  refine (driveOf_any su A cap l (by omega) _ (HA.out.below B0)).mono ?_
  rintro e w1 ⟨d, a, c, rfl, v1, o1, hd, n1, g1⟩
  have B1 := hidP g1
  replace p := p.below g1 p.lt
  replace r := r.below g1 r.lt
  have O1 := hidP o1
  clear o1 g1
  obtain ⟨u0, u1⟩ := p.row2
  go_wp2_with fail
  refine (HD.out _).mono ?_
  rintro e w2 ⟨rfl, g2⟩
  have B2 : Hid (Below W0.heap.size W0 w2) := via0 g2 B1.out
  replace p := p.below g2 p.lt
  replace r := r.below g2 r.lt
  have v2 := v1.below g2 v1.lt
  obtain ⟨F, s2, hF, hc, hnF⟩ := sl_of_own (owns_below O1.out g2)
  have dF := hnF d n1
  have S2 := hidP s2
  have HF := hidP hF
  clear u0 u1 g2 v1 O1 hnF s2 hF B1
  cases bb
  · have eS : fs = su := hS.out
    subst eS
    go_wp2_with fail
    refine (told_any W0 d a c fs 0 l F (by omega) hc w2 B2.out hd v2 S2.out HF.out dF).mono ?_
    rintro e w4 ⟨rfl, g4, n4⟩
    have r4 := rW.below g4 zr
    have R := (r4.setAt 0 (.slice a l.length c)).setAt 1 (.int .i64 fs)
    obtain ⟨e0, e1⟩ := Blk.row2 R
    obtain ⟨x0, x1⟩ := r4.row2
    have f0 := r4.thaw 0
    have f1 := r4.thaw 1
    have N4 := hidP n4
    have B4 : Hid (Below w.heap.size w w4) := B0.trans (g4.mono z0)
    clear R n4 g4
    go_wp2
    exact bodyPost_ret (v := .agg #[.slice a l.length c, .int .i64 fs]) (by simp [results, Try.results20, go_sem, e0, e1]) rfl
      ⟨_, rfl, newB_mono (newB_set (newB_set N4.out zr) zr) z0, bl_set (bl_set B4.out (by omega) _) (by omega) _⟩
  · have eS : fs = (l.length : Int) := hS.out
    subst eS
    obtain ⟨-, -, -, -, c4⟩ := v2.row5d
    have k4 := v2.thaw 4
    have v3 : Blk (w2.setCell ⟨d, 4, none⟩ (.int .i64 1)) d 62 #[.int .i32 0, .int .u32 0, .slice a l.length c, .int .i64 su, .int .i64 1] := v2.setAt 4 _
    have s3 := hidP (Sl.set1 (i := 4) (u := .int .i64 1) S2.out dF)
    have b3 := hidP (bl_set (i := 4) B2.out hd (.int .i64 1))
    go_wp2_with fail
    refine (makeSure_any d w2 c4 k4).mono ?_
    rintro e w3 ⟨rfl, rfl⟩
    generalize w2.setCell ⟨d, 4, none⟩ (.int .i64 1) = w3 at v3 s3 b3 ⊢
    clear c4 k4
    go_wp2_with fail
    refine (told_any W0 d a c su 1 l F (by omega) hc w3 b3.out hd v3 s3.out HF.out dF).mono ?_
    rintro e w4 ⟨rfl, g4, n4⟩
    have r4 := rW.below g4 zr
    have R := (r4.setAt 0 (.slice a l.length c)).setAt 1 (.int .i64 (l.length : Int))
    obtain ⟨e0, e1⟩ := Blk.row2 R
    obtain ⟨x0, x1⟩ := r4.row2
    have f0 := r4.thaw 0
    have f1 := r4.thaw 1
    have N4 := hidP n4
    have B4 : Hid (Below w.heap.size w w4) := B0.trans (g4.mono z0)
    clear R n4 g4
    go_wp2
    exact bodyPost_ret (v := .agg #[.slice a l.length c, .int .i64 (l.length : Int)]) (by simp [results, Try.results20, go_sem, e0, e1]) rfl
      ⟨_, rfl, newB_mono (newB_set (newB_set N4.out zr) zr) z0, bl_set (bl_set B4.out (by omega) _) (by omega) _⟩

set_option maxRecDepth 100000 in
set_option maxHeartbeats 2000000 in
theorem implFall_any (su keep : Int) (A : Option Addr) (cap : Nat) (l : List UInt8) (hl : l.length ≤ 1048576) (w : World) (hA : At w A l) :
    Calls Try.prog 22 #[.agg #[.slice A l.length cap, .int .i64 su], .int .i64 keep] w fun e w' => ∃ v, e = .returned (.agg #[v, .int .i64 (fallS su l.length keep)]) ∧ NewB w.heap.size w' v (fallL su l keep) ∧ Below w.heap.size w w' := by
  have HA := hidP hA
  have HD : Hid (∀ W : World, Calls Try.prog 10 #[.agg #[.slice A l.length cap, .int .i64 su]] W fun e w' => e = .returned (.bool (diskB su l.length)) ∧ Below W.heap.size W w') := fun W => implDiskOk_any su A l.length cap (by omega) W
  clear hA
  have hS : Hid (fallS su l.length keep = if diskB su l.length then (fallN su l.length keep : Int) else su) := rfl
  have hL : Hid (fallL su l keep = if diskB su l.length then l.take (fallN su l.length keep) else l) := rfl
  have hT : Hid (diskB su l.length = true → diskB su l.length = true ∧ fallN su l.length keep ≤ l.length) := fun h => ⟨h, (fall_fit h keep).2.2.2⟩
  have HT : Hid (∀ (w0 : World) (d : Nat) (a : Option Addr) (c : Nat) (F : List Nat) (w : World), diskB su l.length = true → (l.length ≤ c ∧ c ≤ maxLen) → Below w0.heap.size w0 w → w0.heap.size ≤ d → Blk w d 62 #[.int .i32 0, .int .u32 0, .slice a l.length c, .int .i64 su, .int .i64 0] → Sl w a l F → (∀ x ∈ F, w0.heap.size ≤ x) → d ∉ F →
    Calls Try.prog 34 #[.pointer (some ⟨d, 0, none⟩), .int .i64 keep] w fun e w' => e = .returned (.tuple #[]) ∧ ToldT w0 d su 0 a l F (fallN su l.length keep) w') := fun w0 d a c F w h1 h2 h3 h4 h5 h6 h7 h8 => tear_any w0 d a c su 0 keep l F h1 h2 w h3 h4 h5 h6 h7 h8
  generalize fallS su l.length keep = fs at hS ⊢
  generalize fallL su l keep = L at hL ⊢
  generalize fallN su l.length keep = fn at hS hL hT HT
  generalize diskB su l.length = bb at HD hS hL hT HT
  have B0 : Below w.heap.size w ((w.alloc (.cells #[.slice A l.length cap, .int .i64 su] 27)).alloc (.cells #[.slice none 0 0, .int .i64 0] 27)) := alloc0 (alloc0 (Below.refl _ _) _) _
  have p := (Blk.new w 27 #[.slice A l.length cap, .int .i64 su]).alloc (.cells #[.slice none 0 0, .int .i64 0] 27)
  have r := Blk.new (w.alloc (.cells #[.slice A l.length cap, .int .i64 su] 27)) 27 #[.slice none 0 0, .int .i64 0]
  rw [World.size_alloc] at r
  go_enter Try.func22, Try.ntmps22
  go_wp2_with fail
  generalize (w.alloc (.cells #[.slice A l.length cap, .int .i64 su] 27)).alloc (.cells #[.slice none 0 0, .int .i64 0] 27) = W0 at p r B0 ⊢
  have zr := r.lt
  have rW := r
  have z0 := B0.size
  refine (driveOf_any su A cap l (by omega) _ (HA.out.below B0)).mono ?_
  rintro e w1 ⟨d, a, c, rfl, v1, o1, hd, n1, g1⟩
  have B1 := hidP g1
  replace p := p.below g1 p.lt
  replace r := r.below g1 r.lt
  have O1 := hidP o1
  clear o1 g1
  obtain ⟨u0, u1⟩ := p.row2
  go_wp2_with fail
  refine (HD.out _).mono ?_
  rintro e w2 ⟨rfl, g2⟩
  have B2 : Hid (Below W0.heap.size W0 w2) := via0 g2 B1.out
  replace p := p.below g2 p.lt
  replace r := r.below g2 r.lt
  have v2 := v1.below g2 v1.lt
  obtain ⟨F, s2, hF, hc, hnF⟩ := sl_of_own (owns_below O1.out g2)
  have dF := hnF d n1
  have S2 := hidP s2
  have HF := hidP hF
  clear u0 u1 g2 v1 O1 hnF s2 hF B1
  cases bb
  · have eS : fs = su := hS.out
    have eL : L = l := hL.out
    subst eS eL
    go_wp2_with fail
    refine (told_any W0 d a c fs 0 L F (by omega) hc w2 B2.out hd v2 S2.out HF.out dF).mono ?_
    rintro e w4 ⟨rfl, g4, n4⟩
    have r4 := rW.below g4 zr
    have R := (r4.setAt 0 (.slice a L.length c)).setAt 1 (.int .i64 fs)
    obtain ⟨e0, e1⟩ := Blk.row2 R
    obtain ⟨x0, x1⟩ := r4.row2
    have f0 := r4.thaw 0
    have f1 := r4.thaw 1
    have N4 := hidP n4
    have B4 : Hid (Below w.heap.size w w4) := B0.trans (g4.mono z0)
    clear R n4 g4
    go_wp2
    exact bodyPost_ret (v := .agg #[.slice a L.length c, .int .i64 fs]) (by simp [results, Try.results22, go_sem, e0, e1]) rfl
      ⟨_, rfl, newB_mono (newB_set (newB_set N4.out zr) zr) z0, bl_set (bl_set B4.out (by omega) _) (by omega) _⟩
  · have eS : fs = (fn : Int) := hS.out
    have eL := hidP hL.out
    have hfn := (hT.out rfl).2
    have et : (l.take fn).length = fn := by rw [List.length_take]; omega
    have ET := hidP et
    subst eS
    go_wp2_with fail
    refine (HT.out W0 d a c F w2 trivial hc B2.out hd v2 S2.out HF.out dF).mono ?_
    rintro e w3 ⟨rfl, g3, v3, s3⟩
    have b3 := hidP g3
    have S3 := hidP s3
    clear g3 s3 et
    obtain ⟨-, -, -, -, c4⟩ := v3.row5d
    have k4 := v3.thaw 4
    have v4 : Blk (w3.setCell ⟨d, 4, none⟩ (.int .i64 1)) d 62 #[.int .i32 0, .int .u32 0, .slice a fn fn, .int .i64 su, .int .i64 1] := v3.setAt 4 _
    have s4 := hidP (Sl.set1 (i := 4) (u := .int .i64 1) S3.out dF)
    have b4 := hidP (bl_set (i := 4) b3.out hd (.int .i64 1))
    go_wp2_with fail
    refine (makeSure_any d w3 c4 k4).mono ?_
    rintro e w' ⟨rfl, rfl⟩
    generalize w3.setCell ⟨d, 4, none⟩ (.int .i64 1) = w5 at v4 s4 b4 ⊢
    clear c4 k4
    obtain ⟨F', s5, hsub⟩ := Sl.take8 s4.out fn
    have TT := told_any W0 d a fn su 1 (l.take fn) F' (by rw [ET.out]; omega) (by rw [ET.out]; exact ⟨Nat.le_refl _, by have := hc.2; omega⟩) w5 b4.out hd (by rw [ET.out]; exact v4) s5 (fun x hx => HF.out x (hsub x hx)) (fun h => dF (hsub d h))
    rw [ET.out] at TT
    have HTT := hidP TT
    clear TT
    go_wp2_with fail
    refine HTT.out.mono ?_
    rintro e w4 ⟨rfl, g4, n4⟩
    have r4 := rW.below g4 zr
    have R := (r4.setAt 0 (.slice a fn fn)).setAt 1 (.int .i64 (fn : Int))
    obtain ⟨e0, e1⟩ := Blk.row2 R
    obtain ⟨x0, x1⟩ := r4.row2
    have f0 := r4.thaw 0
    have f1 := r4.thaw 1
    have N4 := hidP n4
    have B4 : Hid (Below w.heap.size w w4) := B0.trans (g4.mono z0)
    clear R n4 g4
    go_wp2
    exact bodyPost_ret (v := .agg #[.slice a fn fn, .int .i64 (fn : Int)]) (by simp [results, Try.results22, go_sem, e0, e1]) rfl
      ⟨_, rfl, by rw [eL.out]; exact newB_mono (newB_set (newB_set N4.out zr) zr) z0, bl_set (bl_set B4.out (by omega) _) (by omega) _⟩

set_option maxRecDepth 100000 in
set_option maxHeartbeats 2000000 in
theorem implAppend_any (su : Int) (A A2 : Option Addr) (cap cap2 : Nat) (l b : List UInt8) (hl : l.length ≤ 1048576) (hb : b.length ≤ 1048576) (w : World) (hA : At w A l) (hA2 : At w A2 b) :
    Calls Try.prog 14 #[.agg #[.slice A l.length cap, .int .i64 su], .slice A2 b.length cap2] w fun e w' => ∃ v, e = .returned (.tuple #[.agg #[v, .int .i64 su], .bool (okA su l.length b.length)]) ∧ NewB w.heap.size w' v (appL su l b) ∧ Below w.heap.size w w' := by
  have HA := hidP hA
  have HA2 := hidP hA2
  clear hA2
  have HD : Hid (∀ W : World, Calls Try.prog 10 #[.agg #[.slice A l.length cap, .int .i64 su]] W fun e w' => e = .returned (.bool (diskB su l.length)) ∧ Below W.heap.size W w') := fun W => implDiskOk_any su A l.length cap (by omega) W
  clear hA
  have hok : Hid (okA su l.length b.length = (diskB su l.length && decide (l.length + b.length ≤ 80000))) := rfl
  have hL : Hid (appL su l b = if okA su l.length b.length then l ++ b else l) := rfl
  have HP : Hid (∀ (w0 : World) (d : Nat) (a : Option Addr) (c : Nat) (w : World), Below w0.heap.size w0 w → w0.heap.size ≤ d → Blk w d 62 #[.int .i32 0, .int .u32 0, .slice a l.length c, .int .i64 su, .int .i64 0] → w.ownsRow w0.heap.size 5 1 (.slice a l.length c) l.length (flat l) → some d ≠ (Value.slice a l.length c).ownBlock → At w0 A2 b →
    Calls Try.prog 28 #[.pointer (some ⟨d, 0, none⟩), .slice A2 b.length cap2] w fun e w' => e = .returned (.bool (decide (l.length + b.length ≤ 80000))) ∧ ToldP w0 d su 0 l b (decide (l.length + b.length ≤ 80000)) w') := fun w0 d a c w h1 h2 h3 h4 h5 h6 => put_any w0 d a c su 0 l b A2 cap2 hl hb w h1 h2 h3 h4 h5 h6
  generalize decide (l.length + b.length ≤ 80000) = fit at hok HP
  generalize appL su l b = L at hL ⊢
  generalize okA su l.length b.length = ok at hok hL ⊢
  generalize diskB su l.length = bb at HD hok
  have B0 : Below w.heap.size w ((w.alloc (.cells #[.slice A l.length cap, .int .i64 su] 27)).alloc (.cells #[.slice none 0 0, .int .i64 0] 27)) := alloc0 (alloc0 (Below.refl _ _) _) _
  have p := (Blk.new w 27 #[.slice A l.length cap, .int .i64 su]).alloc (.cells #[.slice none 0 0, .int .i64 0] 27)
  have r := Blk.new (w.alloc (.cells #[.slice A l.length cap, .int .i64 su] 27)) 27 #[.slice none 0 0, .int .i64 0]
  rw [World.size_alloc] at r
  go_enter Try.func14, Try.ntmps14
  go_wp2_with fail
  generalize (w.alloc (.cells #[.slice A l.length cap, .int .i64 su] 27)).alloc (.cells #[.slice none 0 0, .int .i64 0] 27) = W0 at p r B0 ⊢
  have zr := r.lt
  have rW := r
  have z0 := B0.size
  refine (driveOf_any su A cap l (by omega) _ (HA.out.below B0)).mono ?_
  rintro e w1 ⟨d, a, c, rfl, v1, o1, hd, n1, g1⟩
  have B1 := hidP g1
  replace p := p.below g1 p.lt
  replace r := r.below g1 r.lt
  have O1 := hidP o1
  clear o1 g1
  obtain ⟨u0, u1⟩ := p.row2
  go_wp2_with fail
  refine (HD.out _).mono ?_
  rintro e w2 ⟨rfl, g2⟩
  have B2 : Hid (Below W0.heap.size W0 w2) := via0 g2 B1.out
  replace p := p.below g2 p.lt
  replace r := r.below g2 r.lt
  have v2 := v1.below g2 v1.lt
  obtain ⟨F, s2, hF, hc, hnF⟩ := sl_of_own (owns_below O1.out g2)
  have dF := hnF d n1
  have O2 := hidP (owns_below O1.out g2)
  have S2 := hidP s2
  have HF := hidP hF
  clear u0 u1 g2 v1 O1 hnF s2 hF B1
  cases bb
  · have eok : ok = false := by rw [hok.out]; rfl
    have eL : L = l := by rw [hL.out, eok]; rfl
    subst eok eL
    go_wp2_with fail
    refine (told_any W0 d a c su 0 L F (by omega) hc w2 B2.out hd v2 S2.out HF.out dF).mono ?_
    rintro e w4 ⟨rfl, g4, n4⟩
    have r4 := rW.below g4 zr
    have R := (r4.setAt 0 (.slice a L.length c)).setAt 1 (.int .i64 su)
    obtain ⟨e0, e1⟩ := Blk.row2 R
    obtain ⟨x0, x1⟩ := r4.row2
    have f0 := r4.thaw 0
    have f1 := r4.thaw 1
    have N4 := hidP n4
    have B4 : Hid (Below w.heap.size w w4) := B0.trans (g4.mono z0)
    clear R n4 g4
    go_wp2
    exact bodyPost_ret (v := .tuple #[.agg #[.slice a L.length c, .int .i64 su], .bool false]) (by simp [results, Try.results14, go_sem, e0, e1]) rfl
      ⟨_, rfl, newB_mono (newB_set (newB_set N4.out zr) zr) z0, bl_set (bl_set B4.out (by omega) _) (by omega) _⟩
  · have eok : ok = fit := by rw [hok.out]; rfl
    subst eok
    go_wp2_with fail
    refine (HP.out W0 d a c w2 B2.out hd v2 O2.out n1 (HA2.out.below B0)).mono ?_
    rintro e w3 ⟨rfl, a3, c3, L3, eL3, g3, v3, o3, n3⟩
    have eL : L = L3 := by rw [hL.out, eL3]
    have hL3 : L3.length ≤ 3000000 := by rw [eL3]; split <;> (try rw [List.length_append]) <;> omega
    subst eL
    obtain ⟨F3, s3, hF3, hc3, hnF3⟩ := sl_of_own o3
    have dF3 := hnF3 d n3
    have HT3 := hidP (told_any W0 d a3 c3 su 0 L F3 hL3 hc3 w3 g3 hd v3 s3 hF3 dF3)
    clear eL3 g3 v3 o3 n3 s3 hF3 hc3 hnF3 dF3 hL3
    go_wp2_with fail
    refine HT3.out.mono ?_
    rintro e w4 ⟨rfl, g4, n4⟩
    have r4 := rW.below g4 zr
    have R := (r4.setAt 0 (.slice a3 L.length c3)).setAt 1 (.int .i64 su)
    obtain ⟨e0, e1⟩ := Blk.row2 R
    obtain ⟨x0, x1⟩ := r4.row2
    have f0 := r4.thaw 0
    have f1 := r4.thaw 1
    have N4 := hidP n4
    have B4 : Hid (Below w.heap.size w w4) := B0.trans (g4.mono z0)
    clear R n4 g4
    go_wp2
    exact bodyPost_ret (v := .tuple #[.agg #[.slice a3 L.length c3, .int .i64 su], .bool ok]) (by simp [results, Try.results14, go_sem, e0, e1]) rfl
      ⟨_, rfl, newB_mono (newB_set (newB_set N4.out zr) zr) z0, bl_set (bl_set B4.out (by omega) _) (by omega) _⟩
end Go.Proofs.Ytdcngbkcammjoaa.Gen
