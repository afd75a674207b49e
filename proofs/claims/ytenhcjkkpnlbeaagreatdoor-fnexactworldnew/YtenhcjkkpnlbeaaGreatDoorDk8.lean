/-
  impl.Append, Sync, Fall: what they answer. No condition but that there are at most 1048576 bytes.
-/
import Derived.Test.YtenhcjkkpnlbeaaGreatDoorDk6
import Derived.Test.YtenhcjkkpnlbeaaGreatDoorCmdRd2
set_option linter.unusedVariables false
set_option linter.unusedSimpArgs false
set_option maxRecDepth 100000
set_option maxHeartbeats 8000000
namespace Go.Proofs.YtenhcjkkpnlbeaaGreatDoor.Gen
open ChangeShapes WideShapes ChangeAt RowKit Joins Deep Base MuLone
theorem sl_of_own {B : Nat} {w : World} {a : Option Addr} {c : Nat} {L : List UInt8} {t : TypeId} (h : w.ownsRow B t 1 (.slice a L.length c) L.length (flat L)) : ∃ F, Sl w a L F /\ (∀ x ∈ F, B <= x) /\ (L.length <= c /\ c <= maxLen) /\ ∀ d, some d ≠ (Value.slice a L.length c).ownBlock -> d ∉ F := by
 rcases h.2 with ⟨e, h0⟩ | ⟨g, c', cur, e, hB, hg, hc, hm, hsz, ht⟩
 . have : L = [] := List.length_eq_zero_iff.1 h0
   subst this
   cases e
   exact ⟨[], .inl ⟨rfl, rfl⟩, by simp, ⟨by simp, by simp [maxLen]⟩, by simp⟩
 . have hf := Qfp (α := UInt8) (t := t) hg hB hc hsz ht
   cases e
   by_cases h0 : L = []
   . exact ⟨[], .inl ⟨h0, rfl⟩, by simp, ⟨hc, hm⟩, by simp⟩
   . obtain ⟨A', c2, e2, _, h1⟩ := hf
     cases e2
     obtain ⟨b, o, e3, hB', hb, hi, hth⟩ := h1.resolve_left h0
     cases e3
     exact ⟨[g], .inr ⟨g, 0, rfl, rfl, hb, hi, hth⟩, by simpa using hB', ⟨hc, hm⟩, fun d hd hm => by simp at hm; subst hm; exact hd rfl⟩
theorem Qlj (su : Int) (A : Option Addr) (cap : Nat) (l : List UInt8) (hl : l.length <= 1048576) (w : World) (hA : At w A l) :
 Calls Tryz.prog 121 #[.agg #[.slice A l.length cap, .int .i64 su]] w fun e w' => ∃ v, e = .returned (.agg #[v, .int .i64 (syncS su l.length)]) /\ NewB w.heap.size w' v l /\ Below w.heap.size w w' := by
 have HA := hidP hA
 have HD : Hid (∀ W : World, Calls Tryz.prog 86 #[.agg #[.slice A l.length cap, .int .i64 su]] W fun e w' => e = .returned (.bool (Qfu su l.length)) /\ Below W.heap.size W w') := fun W => Qe1 su A l.length cap (by omega) W
 clear hA
 have hS : Hid (syncS su l.length = if Qfu su l.length then (l.length : Int) else su) := rfl
 generalize syncS su l.length = fs at hS ⊢
 generalize Qfu su l.length = bb at HD hS
 have B0 : Below w.heap.size w ((w.alloc (.cells #[.slice A l.length cap, .int .i64 su] 54)).alloc (.cells #[.slice none 0 0, .int .i64 0] 54)) := Qab (Qab (Below.refl _ _) _) _
 have p := (Blk.new w 54 #[.slice A l.length cap, .int .i64 su]).alloc (.cells #[.slice none 0 0, .int .i64 0] 54)
 have r := Blk.new (w.alloc (.cells #[.slice A l.length cap, .int .i64 su] 54)) 54 #[.slice none 0 0, .int .i64 0]
 rw [World.size_alloc] at r
 go_enter Tryz.func121, Tryz.ntmps121
 go_wp2_with fail
 generalize (w.alloc (.cells #[.slice A l.length cap, .int .i64 su] 54)).alloc (.cells #[.slice none 0 0, .int .i64 0] 54) = W0 at p r B0 ⊢
 have zr := r.lt
 have rW := r
 have z0 := B0.size
 refine (Qnc su A cap l (by omega) _ (HA.out.below B0)).mono ?_
 rintro e w1 ⟨d, a, c, rfl, v1, o1, hd, n1, g1⟩
 have B1 := hidP g1
 replace p := p.below g1 p.lt
 replace r := r.below g1 r.lt
 have O1 := hidP o1
 clear o1 g1
 obtain ⟨u0, u1⟩ := p.row2
 go_wp2_with fail
 refine (HD.out _).mono ?_
 rintro e w2 ⟨rfl, g2⟩
 have B2 : Hid (Below W0.heap.size W0 w2) := via0 g2 B1.out
 replace p := p.below g2 p.lt
 replace r := r.below g2 r.lt
 have v2 := v1.below g2 v1.lt
 obtain ⟨F, s2, hF, hc, hnF⟩ := sl_of_own (Qdz O1.out g2)
 have dF := hnF d n1
 have S2 := hidP s2
 have HF := hidP hF
 clear u0 u1 g2 v1 O1 hnF s2 hF B1
 cases bb
 . have eS : fs = su := hS.out
   subst eS
   go_wp2_with fail
   refine (told_any W0 d a c fs 0 l F (by omega) hc w2 B2.out hd v2 S2.out HF.out dF).mono ?_
   rintro e w4 ⟨rfl, g4, n4⟩
   have r4 := rW.below g4 zr
   have R := (r4.setAt 0 (.slice a l.length c)).setAt 1 (.int .i64 fs)
   obtain ⟨e0, e1⟩ := Blk.row2 R
   obtain ⟨x0, x1⟩ := r4.row2
   have f0 := r4.thaw 0
   have f1 := r4.thaw 1
   have N4 := hidP n4
   have B4 : Hid (Below w.heap.size w w4) := B0.trans (g4.mono z0)
   clear R n4 g4
   go_wp2
   exact bodyPost_ret (v := .agg #[.slice a l.length c, .int .i64 fs]) (by simp [results, Tryz.results121, go_sem, e0, e1]) rfl
    ⟨_, rfl, Qkr (Qgo (Qgo N4.out zr) zr) z0, Qa7 (Qa7 B4.out (by omega) _) (by omega) _⟩
 . have eS : fs = (l.length : Int) := hS.out
   subst eS
   obtain ⟨-, -, -, -, c4⟩ := v2.row5d
   have k4 := v2.thaw 4
   have v3 : Blk (w2.setCell ⟨d, 4, none⟩ (.int .i64 1)) d 258 #[.int .i32 0, .int .u32 0, .slice a l.length c, .int .i64 su, .int .i64 1] := v2.setAt 4 _
   have s3 := hidP (Sl.set1 (i := 4) (u := .int .i64 1) S2.out dF)
   have b3 := hidP (Qa7 (i := 4) B2.out hd (.int .i64 1))
   go_wp2_with fail
   refine (Qle d w2 c4 k4).mono ?_
   rintro e w3 ⟨rfl, rfl⟩
   generalize w2.setCell ⟨d, 4, none⟩ (.int .i64 1) = w3 at v3 s3 b3 ⊢
   clear c4 k4
   go_wp2_with fail
   refine (told_any W0 d a c su 1 l F (by omega) hc w3 b3.out hd v3 s3.out HF.out dF).mono ?_
   rintro e w4 ⟨rfl, g4, n4⟩
   have r4 := rW.below g4 zr
   have R := (r4.setAt 0 (.slice a l.length c)).setAt 1 (.int .i64 (l.length : Int))
   obtain ⟨e0, e1⟩ := Blk.row2 R
   obtain ⟨x0, x1⟩ := r4.row2
   have f0 := r4.thaw 0
   have f1 := r4.thaw 1
   have N4 := hidP n4
   have B4 : Hid (Below w.heap.size w w4) := B0.trans (g4.mono z0)
   clear R n4 g4
   go_wp2
   exact bodyPost_ret (v := .agg #[.slice a l.length c, .int .i64 (l.length : Int)]) (by simp [results, Tryz.results121, go_sem, e0, e1]) rfl
    ⟨_, rfl, Qkr (Qgo (Qgo N4.out zr) zr) z0, Qa7 (Qa7 B4.out (by omega) _) (by omega) _⟩
end Go.Proofs.YtenhcjkkpnlbeaaGreatDoor.Gen
namespace Go.Proofs.YtenhcjkkpnlbeaaGreatDoor.Items
open ChangeShapes WideShapes ChangeAt RowKit Base
structure Only (b : Nat) (w w' : World) : Prop where
  os : w'.os = w.os
  tape : w'.tape = w.tape
  output : w'.output = w.output
  size : w.heap.size <= w'.heap.size
  block : ∀ k, k < w.heap.size -> k ≠ b -> w'.heap[k]? = w.heap[k]?
theorem Only.refl (b : Nat) (w : World) : Only b w w := ⟨rfl, rfl, rfl, Nat.le_refl _, fun _ _ _ => rfl⟩
theorem Only.below {b : Nat} {w w1 w2 : World} (h : Only b w w1) (k : Below w1.heap.size w1 w2) : Only b w w2 :=
 ⟨k.os.trans h.os, k.tape.trans h.tape, k.output.trans h.output, Nat.le_trans h.size k.size, fun i hi hb => (k.block i (Nat.lt_of_lt_of_le hi h.size)).trans (h.block i hi hb)⟩
theorem Only.set {b : Nat} {w w1 : World} (h : Only b w w1) (o : Nat) (v : Value) : Only b w (w1.setCell ⟨b, o, none⟩ v) :=
 ⟨h.os, h.tape, h.output, by simpa using h.size, fun i hi hb => (Below.heap_setCell w1 ⟨b, o, none⟩ v i hb).trans (h.block i hi hb)⟩
theorem Only.toBelow {b B : Nat} {w w1 : World} (h : Only b w w1) (hB : B <= b) (hw : B <= w.heap.size) : Below B w w1 :=
 ⟨h.os, h.tape, h.output, h.size, fun i hi => h.block i (by omega) (by omega)⟩
theorem Only.cell {b : Nat} {w w1 : World} (h : Only b w w1) {p : Addr} (hp : p.block < w.heap.size) (hb : p.block ≠ b) : w1.cell? p = w.cell? p := World.cell?_of_block (h.block p.block hp hb)
theorem Qlf {b n : Nat} {w : World} {p : Addr} {v : Value} (h : b < w.heap.size) (k : (w.setCell p v).heap.size <= n) : b < n := by simp at k; omega
def markI (z : Int) : It := ⟨z, markZ (z + 1), markZ (z + 2), z + 3, z + 4⟩
def marks (n : Nat) (z : Int) : List It := (List.range n).map fun (i : Nat) => markI (z + (i : Int) * 5)
theorem marks_length (n : Nat) (z : Int) : (marks n z).length = n := by simp [marks]
theorem marks_succ (n : Nat) (z : Int) : marks (n + 1) z = marks n z ++ [markI (z + (n : Int) * 5)] := by simp [marks, List.range_succ]
theorem marks_get (n : Nat) (z : Int) (i : Nat) (h : i < (marks n z).length) : (marks n z)[i] = markI (z + (i : Int) * 5) := by simp [marks]
theorem Qd6 {w w' : World} {b o : Nat} {cs : List Value} (h : w.rangeAt b o cs) (hb : b < w.heap.size) (hw : Below w.heap.size w w') : w'.rangeAt b o cs :=
 fun j v hv => (hw.cell (p := ⟨b, o + j, none⟩) hb).trans (h j v hv)
theorem push {w : World} {b o q m : Nat} {cs : List Value} {v : Value} (h : w.rangeAt b o cs /\ w.there b o m /\ b < w.heap.size) (hl : cs.length < m) (hq : q = o + cs.length) :
 (w.setCell ⟨b, q, none⟩ v).rangeAt b o (cs ++ [v]) /\ (w.setCell ⟨b, q, none⟩ v).there b o m /\ b < (w.setCell ⟨b, q, none⟩ v).heap.size := by
 subst hq
 obtain ⟨h, ht, hb⟩ := h
 refine ⟨Qdu (World.rangeAt_setCells_apart h b (o + cs.length) [v] (.inr (.inl (Nat.le_refl _)))) (World.rangeAt_setCells_same w b (o + cs.length) [v] fun j hj => ?_), World.there_setCells ht b _ [v], by simpa using hb⟩
 have hj' : j = 0 := by simp at hj; exact hj
 subst hj'
 exact ht cs.length hl
theorem call {w w' : World} {b o m : Nat} {cs : List Value} (h : w.rangeAt b o cs /\ w.there b o m /\ b < w.heap.size) (k : Below w.heap.size w w') : w'.rangeAt b o cs /\ w'.there b o m /\ b < w'.heap.size :=
 ⟨Qd6 h.1 h.2.2 k, Qe7 h.2.1 h.2.2 k, Nat.lt_of_lt_of_le h.2.2 k.size⟩
theorem marks_flat (n : Nat) (k z : Int) (hz : z = k + (n : Int) * 5) :
 flat (marks n k) ++ [.int .i64 z] ++ [.string (markZ (z + 1))] ++ [.string (markZ (z + 1 + 1))] ++ [.int .i64 (z + 1 + 1 + 1)] ++ [.int .i64 (z + 1 + 1 + 1 + 1)] = flat (marks (n + 1) k) := by
 subst hz
 have e2 : ∀ z : Int, z + 1 + 1 = z + 2 := fun z => by omega
 have e3 : ∀ z : Int, z + 1 + 1 + 1 = z + 3 := fun z => by omega
 have e4 : ∀ z : Int, z + 1 + 1 + 1 + 1 = z + 4 := fun z => by omega
 rw [marks_succ, Qbf, Qce, e4, e3, e2]
 simp [It.cs, markI]
theorem markItemS_any (b o cap m : Nat) (k : Int) (hk : 1 <= k) (hk' : k <= 100000000) (hm : m <= 1048576) (w : World) (hb : b < w.heap.size) (hth : w.there b o (m * 5)) :
 Calls Tryz.prog 103 #[.slice (some ⟨b, o, none⟩) m cap, .int .i64 k] w fun e w' => e = .returned (.int .i64 (k + (m : Int) * 5)) /\ Only b w w' /\ In w' b o (marks m k) /\ w'.there b o (m * 5) := by
 have HT : Hid (w.there b o (m * 5)) := hth
 clear hth
 go_enter Tryz.func103, Tryz.ntmps103
 go_wp2
 go_loopw [1, 5] (fun kk i w' => ∃ (n : Nat) (z : Int), i = .int .i64 (n : Int) /\ kk = .int .i64 z /\ n <= m /\ 1 <= z /\ z <= 900000000 /\ Only b w w' /\ Hid (z = k + (n : Int) * 5) /\ Hid (In w' b o (marks n k)) /\ Hid (w'.there b o (m * 5))) (fun _ i _ => m - (intOf i).toNat)
 case atStart => exact ⟨0, k, rfl, rfl, by omega, hk, by omega, Only.refl _ _, by simp [Hid], fun j v hv => by simp [marks, flat] at hv, HT.out⟩
 case round =>
  obtain ⟨n, z, rfl, rfl, hn, hz1, hz2, ho, hz, hin, hth⟩ := hrel
  by_cases hlt : n < m
  . have hT : ∀ f, f < 5 -> (∃ v, wr.cell? ⟨b, o + n * 5 + f, none⟩ = some v) /\ wr.frozen? ⟨b, o + n * 5 + f, none⟩ = false := fun f hf => by
     have := hth.out (n * 5 + f) (by omega)
     rw [← Nat.add_assoc] at this
     exact ⟨Option.isSome_iff_exists.1 this.1, this.2⟩
    obtain ⟨⟨v0, d0⟩, f0⟩ := hT 0 (by omega)
    rw [Nat.add_zero] at d0 f0
    obtain ⟨⟨v1, d1⟩, f1⟩ := hT 1 (by omega)
    obtain ⟨⟨v2, d2⟩, f2⟩ := hT 2 (by omega)
    obtain ⟨⟨v3, d3⟩, f3⟩ := hT 3 (by omega)
    obtain ⟨⟨v4, d4⟩, f4⟩ := hT 4 (by omega)
    clear hT
    have q1 : b < wr.heap.size := Nat.lt_of_lt_of_le hb ho.size
    go_wp2_with (go_at_call 62; refine (markText_at _ ?_ ?_ _).mono ?_; omega; omega; rintro e w1 ⟨rfl, g1⟩; obtain ⟨k1, m1⟩ := Qax g1; have s1 := g1.size; have q1 : b < w1.heap.size := Qlf q1 s1)
    have hlen : (flat (marks n k)).length = n * 5 := by rw [Qa6, marks_length]
    have P0 := push (v := .int .i64 z) (q := o + n * 5) ⟨hin.out, hth.out, Nat.lt_of_lt_of_le hb ho.size⟩ (by rw [hlen]; omega) (by rw [hlen])
    have P1 := push (v := .string (markZ (z + 1))) (q := o + n * 5 + 1) (call P0 (by assumption)) (by simp [hlen]; omega) (by simp [hlen]; omega)
    have P2 := push (v := .string (markZ (z + 1 + 1))) (q := o + n * 5 + 2) (call P1 g1) (by simp [hlen]; omega) (by simp [hlen]; omega)
    have P3 := push (v := .int .i64 (z + 1 + 1 + 1)) (q := o + n * 5 + 3) P2 (by simp [hlen]; omega) (by simp [hlen]; omega)
    have P4 := push (v := .int .i64 (z + 1 + 1 + 1 + 1)) (q := o + n * 5 + 4) P3 (by simp [hlen]; omega) (by simp [hlen]; omega)
    rw [marks_flat n k z hz.out] at P4
    have hz' := hz.out
    refine ⟨⟨n + 1, z + 1 + 1 + 1 + 1 + 1, by go_num, rfl, by omega, by omega, by omega, ?_, by show z + 1 + 1 + 1 + 1 + 1 = _; omega, P4.1, P4.2.1⟩, by simp [intOf]; omega⟩
    exact ((((((ho.set _ _).below (by assumption)).set _ _).below g1).set _ _).set _ _).set _ _
  . obtain rfl : n = m := by omega
    go_wp2
    go_ret
    have e := hz.out
    subst e
    exact ⟨rfl, ho, hin.out, hth.out⟩
end Go.Proofs.YtenhcjkkpnlbeaaGreatDoor.Items
namespace Go.Proofs.YtenhcjkkpnlbeaaGreatDoor.Items
open ChangeShapes WideShapes ChangeAt RowKit Base
theorem heldItemS_any (A : Option Addr) (cap m : Nat) (k : Int) (hk : 1 <= k) (hk' : k <= 100000000) (hm : m <= 1048576) (w : World)
 (hA : m = 0 ∨ ∃ b o, A = some ⟨b, o, none⟩ /\ b < w.heap.size /\ In w b o (marks m k)) :
 Calls Tryz.prog 105 #[.slice A m cap, .int .i64 k] w fun e w' => e = .returned (.int .i64 (k + (m : Int) * 5)) /\ Below w.heap.size w w' := by
 have HA : Hid (m = 0 ∨ ∃ b o, A = some ⟨b, o, none⟩ /\ b < w.heap.size /\ In w b o (marks m k)) := hA
 clear hA
 go_enter Tryz.func105, Tryz.ntmps105
 go_wp2
 go_loopw [1, 5] (fun kk i w' => ∃ (n : Nat) (z : Int), i = .int .i64 (n : Int) /\ kk = .int .i64 z /\ n <= m /\ 1 <= z /\ z <= 900000000 /\ Hid (z = k + (n : Int) * 5) /\ Below w.heap.size w w') (fun _ i _ => m - (intOf i).toNat)
 case atStart => exact ⟨0, k, rfl, rfl, by omega, hk, by omega, by simp [Hid], Below.refl _ _⟩
 case round =>
  obtain ⟨n, z, rfl, rfl, hn, hz1, hz2, hz, hbl⟩ := hrel
  by_cases hlt : n < m
  . obtain ⟨b, o, rfl, hbs, hin⟩ : ∃ b o, A = some ⟨b, o, none⟩ /\ b < w.heap.size /\ In w b o (marks m k) := by
     rcases HA.out with h | h
     . omega
     . exact h
    have hb1 : b < wr.heap.size := Nat.lt_of_lt_of_le hbs hbl.size
    obtain ⟨c0, c1, c2, c3, c4⟩ : wr.cell? ⟨b, o + n * 5, none⟩ = some (.int .i64 z) /\ wr.cell? ⟨b, o + n * 5 + 1, none⟩ = some (.string (markZ (z + 1))) /\ wr.cell? ⟨b, o + n * 5 + 2, none⟩ = some (.string (markZ (z + 1 + 1))) /\
     wr.cell? ⟨b, o + n * 5 + 3, none⟩ = some (.int .i64 (z + 1 + 1 + 1)) /\ wr.cell? ⟨b, o + n * 5 + 4, none⟩ = some (.int .i64 (z + 1 + 1 + 1 + 1)) := by
     have h := (hin.below hbs hbl).get n (by rw [marks_length]; exact hlt)
     rw [marks_get] at h
     have e2 : z + 1 + 1 = z + 2 := by omega
     have e3 : z + 1 + 1 + 1 = z + 3 := by omega
     have e4 : z + 1 + 1 + 1 + 1 = z + 4 := by omega
     rw [e4, e3, e2, hz.out]
     exact h
    have hi0 : (0 : Int) <= (n : Int) := by omega
    have hi1 : (n : Int) < (m : Int) := by omega
    go_wp2
    go_region_held3 (fun w' => w'.cell? ⟨b, o + n * 5 + 1, none⟩ = some (.string (markZ (z + 1))) /\ w'.cell? ⟨b, o + n * 5 + 2, none⟩ = some (.string (markZ (z + 1 + 1))) /\ w'.cell? ⟨b, o + n * 5 + 3, none⟩ = some (.int .i64 (z + 1 + 1 + 1)) /\ w'.cell? ⟨b, o + n * 5 + 4, none⟩ = some (.int .i64 (z + 1 + 1 + 1 + 1)) /\ b < w'.heap.size)
     (first | (go_split_ands; refine ⟨?_, ?_, ?_, ?_, ?_⟩<;>first | assumption | exact (k1 _ _ (by assumption)).trans (by assumption) | exact Nat.lt_of_lt_of_le (by assumption) s1 | (simp; done)) | go_keep)
     (first
      | (go_at_call 62; refine (markText_at _ ?_ ?_ _).mono ?_; omega; omega; rintro e w1 ⟨rfl, g1⟩; obtain ⟨k1, m1⟩ := Qax g1; have s1 := g1.size))
    go_split_ands
    go_wp2
    go_region_held3 (fun w' => w'.cell? ⟨b, o + n * 5 + 2, none⟩ = some (.string (markZ (z + 1 + 1))) /\ w'.cell? ⟨b, o + n * 5 + 3, none⟩ = some (.int .i64 (z + 1 + 1 + 1)) /\ w'.cell? ⟨b, o + n * 5 + 4, none⟩ = some (.int .i64 (z + 1 + 1 + 1 + 1)) /\ b < w'.heap.size)
     (first | (go_split_ands; refine ⟨?_, ?_, ?_, ?_⟩<;>first | assumption | exact (k2 _ _ (by assumption)).trans (by assumption) | exact Nat.lt_of_lt_of_le (by assumption) s2 | (simp; done)) | go_keep)
     (first
      | (go_at_call 62; refine (markText_at _ ?_ ?_ _).mono ?_; omega; omega; rintro e w2 ⟨rfl, g2⟩; obtain ⟨k2, m2⟩ := Qax g2; have s2 := g2.size))
    go_split_ands
    go_wp2
    have hz' := hz.out
    exact ⟨⟨n + 1, z + 1 + 1 + 1 + 1 + 1, by go_num, rfl, by omega, by omega, by omega, by show z + 1 + 1 + 1 + 1 + 1 = _; omega, via0 g2 (via0 g1 hbl.drew).drew⟩, by simp [intOf]; omega⟩
  . obtain rfl : n = m := by omega
    go_wp2
    go_ret
    have e := hz.out
    subst e
    exact ⟨rfl, hbl⟩
end Go.Proofs.YtenhcjkkpnlbeaaGreatDoor.Items
namespace Go.Proofs.YtenhcjkkpnlbeaaGreatDoor.Items
open ChangeShapes WideShapes ChangeAt RowKit Base
theorem Qm4 (off who time : Int) (k t : ByteArray) (w : World) :
 Calls Tryz.prog 220 #[.agg (Qc4 off k t who time), .agg (Qc4 off k t who time)] w fun e w' => e = .returned (.bool true) /\ Below w.heap.size w w' := by
 go_enter Tryz.func220, Tryz.ntmps220
 go_wp2
 go_ret
 exact ⟨rfl, by repeat (first | exact Below.refl _ _ | refine via0 (by assumption) ?_ | refine Below.drew ?_ | refine Qab ?_ _)⟩
theorem Qlw (A A' : Option Addr) (cap cap' : Nat) (l : List It) (hl : l.length <= 9223372036854775807) (w : World)
 (hA : l = [] ∨ ∃ b o, A = some ⟨b, o, none⟩ /\ b < w.heap.size /\ In w b o l) (hA' : l = [] ∨ ∃ b o, A' = some ⟨b, o, none⟩ /\ b < w.heap.size /\ In w b o l) :
 Calls Tryz.prog 197 #[.slice A l.length cap, .slice A' l.length cap'] w fun e w' => e = .returned (.bool true) /\ Below w.heap.size w w' := by
 have HA : Hid (l = [] ∨ ∃ b o, A = some ⟨b, o, none⟩ /\ b < w.heap.size /\ In w b o l) := hA
 have HA' : Hid (l = [] ∨ ∃ b o, A' = some ⟨b, o, none⟩ /\ b < w.heap.size /\ In w b o l) := hA'
 clear hA hA'
 go_enter Tryz.func197, Tryz.ntmps197
 go_wp2
 go_loopw [5] (fun i w' => ∃ (n : Nat), i = .int .i64 (n : Int) /\ n <= l.length /\ Below w.heap.size w w') (fun i _ => l.length - (intOf i).toNat)
 case atStart => exact ⟨0, rfl, by omega, Below.refl _ _⟩
 case round =>
  obtain ⟨n, rfl, hn, hbl⟩ := hrel
  by_cases hlt : n < l.length
  . obtain ⟨b, o, rfl, hbs, hin⟩ : ∃ b o, A = some ⟨b, o, none⟩ /\ b < w.heap.size /\ In w b o l := by
     rcases HA.out with h | h
     . subst h; simp at hlt
     . exact h
    obtain ⟨b', o', rfl, hbs', hin'⟩ : ∃ b o, A' = some ⟨b, o, none⟩ /\ b < w.heap.size /\ In w b o l := by
     rcases HA'.out with h | h
     . subst h; simp at hlt
     . exact h
    obtain ⟨c0, c1, c2, c3, c4⟩ := (hin.below hbs hbl).get n hlt
    obtain ⟨d0, d1, d2, d3, d4⟩ := (hin'.below hbs' hbl).get n hlt
    have hb1 : b < wr.heap.size := Nat.lt_of_lt_of_le hbs hbl.size
    have hb2 : b' < wr.heap.size := Nat.lt_of_lt_of_le hbs' hbl.size
    have hi0 : (0 : Int) <= (n : Int) := by omega
    have hi1 : (n : Int) < (l.length : Int) := by omega
    go_wp2
    go_region_held3 (fun w' => w'.cell? ⟨b, o + n * 5, none⟩ = some (.int .i64 l[n].off) /\ w'.cell? ⟨b, o + n * 5 + 1, none⟩ = some (.string l[n].key) /\ w'.cell? ⟨b, o + n * 5 + 2, none⟩ = some (.string l[n].text) /\ w'.cell? ⟨b, o + n * 5 + 3, none⟩ = some (.int .i64 l[n].who) /\ w'.cell? ⟨b, o + n * 5 + 4, none⟩ = some (.int .i64 l[n].time) /\
     w'.cell? ⟨b', o' + n * 5, none⟩ = some (.int .i64 l[n].off) /\ w'.cell? ⟨b', o' + n * 5 + 1, none⟩ = some (.string l[n].key) /\ w'.cell? ⟨b', o' + n * 5 + 2, none⟩ = some (.string l[n].text) /\ w'.cell? ⟨b', o' + n * 5 + 3, none⟩ = some (.int .i64 l[n].who) /\ w'.cell? ⟨b', o' + n * 5 + 4, none⟩ = some (.int .i64 l[n].time) /\ wr.heap.size <= w'.heap.size)
     (first | (go_split_ands; refine ⟨?_, ?_, ?_, ?_, ?_, ?_, ?_, ?_, ?_, ?_, ?_⟩<;>first | assumption | exact (k1 _ _ hb1).trans (by assumption) | exact (k1 _ _ hb2).trans (by assumption) | exact s1 | (simp; done)) | go_keep)
     (first
      | (go_at_call 220; refine (Qm4 _ _ _ _ _ _).mono ?_; rintro e w1 ⟨rfl, g1⟩; obtain ⟨k1, m1⟩ := Qax g1; have s1 := g1.size))
    all_goals
     go_wp2
     exact ⟨⟨n + 1, by go_num, by omega, via0 g1 hbl.drew⟩, by simp [intOf]; omega⟩
  . go_wp2
    go_ret
    exact ⟨rfl, hbl⟩
theorem eqRow_same (start next : Int) (A A' : Option Addr) (cap cap' : Nat) (l : List It) (hl : l.length <= 9223372036854775807) (w : World)
 (hA : l = [] ∨ ∃ b o, A = some ⟨b, o, none⟩ /\ b < w.heap.size /\ In w b o l) (hA' : l = [] ∨ ∃ b o, A' = some ⟨b, o, none⟩ /\ b < w.heap.size /\ In w b o l) :
 Calls Tryz.prog 174 #[.agg (Qay start next A l.length cap), .agg (Qay start next A' l.length cap')] w fun e w' => e = .returned (.bool true) /\ Below w.heap.size w w' := by
 have up : ∀ {A : Option Addr}, (l = [] ∨ ∃ b o, A = some ⟨b, o, none⟩ /\ b < w.heap.size /\ In w b o l) -> ∀ W : World, Below w.heap.size w W -> l = [] ∨ ∃ b o, A = some ⟨b, o, none⟩ /\ b < W.heap.size /\ In W b o l := fun hA W hW => by
  rcases hA with h | ⟨b, o, h1, h2, h3⟩
  . exact .inl h
  . exact .inr ⟨b, o, h1, Nat.lt_of_lt_of_le h2 hW.size, h3.below h2 hW⟩
 have HA : Hid (∀ W : World, Below w.heap.size w W -> l = [] ∨ ∃ b o, A = some ⟨b, o, none⟩ /\ b < W.heap.size /\ In W b o l) := up hA
 have HA' : Hid (∀ W : World, Below w.heap.size w W -> l = [] ∨ ∃ b o, A' = some ⟨b, o, none⟩ /\ b < W.heap.size /\ In W b o l) := up hA'
 clear hA hA' up
 go_enter Tryz.func174, Tryz.ntmps174
 go_wp2_with (go_at_call 197; refine (Qlw A A' cap cap' l hl _ (HA.out _ ?_) (HA'.out _ ?_)).mono ?_; (repeat (first | exact Below.refl _ _ | refine via0 (by assumption) ?_ | refine Below.drew ?_ | refine Qab ?_ _)); (repeat (first | exact Below.refl _ _ | refine via0 (by assumption) ?_ | refine Below.drew ?_ | refine Qab ?_ _)); rintro e w1 ⟨rfl, g1⟩)
 go_ret
 refine ⟨rfl, ?_⟩
 repeat (first | exact Below.refl _ _ | refine via0 (by assumption) ?_ | refine Below.drew ?_ | refine Qab ?_ _)
end Go.Proofs.YtenhcjkkpnlbeaaGreatDoor.Items
namespace Go.Proofs.YtenhcjkkpnlbeaaGreatDoor.Gen
open ChangeShapes WideShapes ChangeAt RowKit Joins Deep Base
open Items (It)
instance : Cel It where
  k := 5
  cs := It.cs
  len _ := rfl
  one x u hu := by simp [It.cs] at hu; rcases hu with rfl | rfl | rfl | rfl | rfl<;>rfl
structure RC where
  start : Int
  next : Int
  A : Option Addr
  cap : Nat
  its : List It
instance : Inhabited RC := ⟨⟨0, 0, none, 0, []⟩⟩
instance : Cel RC where
  k := 3
  cs x := [.int .i64 x.start, .int .i64 x.next, .slice x.A x.its.length x.cap]
  len _ := rfl
  one x u hu := by simp at hu; rcases hu with rfl | rfl | rfl<;>rfl
structure PR where
  start : Int
  next : Int
  its : List It
def RC.p (x : RC) : PR := ⟨x.start, x.next, x.its⟩
def RC.right (x : RC) : Prop := I64 x.start /\ I64 x.next /\ x.its.length <= 9223372036854775807 /\ ∀ y ∈ x.its, y.right
def EachR (w : World) (l : List RC) : Prop := ∀ x ∈ l, At w x.A x.its
theorem EachR.below {w w' : World} {l : List RC} (h : EachR w l) (hw : Below w.heap.size w w') : EachR w' l := fun x hx => (h x hx).below hw
def rowP (w : World) (x : RC) (S : Nat -> Prop) : Prop := Sub w x.A x.its S
theorem Qb1 : Firm rowP := fun w w' x S T h k hd => Sub.offp h k hd
theorem rowP_each {S : Nat -> Prop} {w : World} {a : Option Addr} {l : List RC} (h : Own rowP w a l S) : EachR w l := h.each (fun x S hx => Sub.at hx)
theorem In.getRC {w : World} {b o : Nat} {l : List RC} (h : In w b o l) (i : Nat) (hi : i < l.length) :
 w.cell? ⟨b, o + i * 3, none⟩ = some (.int .i64 l[i].start) /\ w.cell? ⟨b, o + i * 3 + 1, none⟩ = some (.int .i64 l[i].next) /\ w.cell? ⟨b, o + i * 3 + 2, none⟩ = some (.slice l[i].A l[i].its.length l[i].cap) :=
 ⟨h.cell i hi (f := 0) rfl, h.cell i hi (f := 1) rfl, h.cell i hi (f := 2) rfl⟩
theorem infoRC : (Tryz.prog.info? 139).map (fun i => (i.zero, i.size, i.bytes)) = some (some (.agg Qjc), 3, 40) := by kernel_rfl
theorem Qm1 (A A' : Option Addr) (cap cap' : Nat) (l l' : List RC) (hl : l.length <= 9223372036854775807) (hr : ∀ x ∈ l, x.its.length <= 9223372036854775807) (hsame : l'.map RC.p = l.map RC.p) (w : World) (hA : At w A l) (hE : EachR w l) (hA' : At w A' l') (hE' : EachR w l') :
 Calls Tryz.prog 143 #[.slice A l.length cap, .slice A' l.length cap'] w fun e w' => e = .returned (.bool true) /\ Below w.heap.size w w' := by
 have HA := hidP hA
 have HE := hidP hE
 have HA' := hidP hA'
 have HE' := hidP hE'
 have Hr := hidP hr
 have HS := hidP hsame
 have HLL : Hid (l'.length = l.length) := by have := congrArg List.length hsame; show _ = _; simpa using this
 clear hA hE hA' hE' hr hsame
 go_enter Tryz.func143, Tryz.ntmps143
 go_wp2
 go_loopw [5] (fun i w' => ∃ (n : Nat), i = .int .i64 (n : Int) /\ n <= l.length /\ Below w.heap.size w w') (fun i _ => l.length - (intOf i).toNat)
 case atStart => exact ⟨0, rfl, by omega, Below.refl _ _⟩
 case round =>
  obtain ⟨n, rfl, hn, hbl⟩ := hrel
  by_cases hlt : n < l.length
  . have hll := HLL.out
    obtain ⟨b, o, rfl, hbs, hin⟩ : ∃ b o, A = some ⟨b, o, none⟩ /\ b < w.heap.size /\ In w b o l := by
     rcases HA.out with h | h
     . subst h; simp at hlt
     . exact h
    obtain ⟨b', o', rfl, hbs', hin'⟩ : ∃ b o, A' = some ⟨b, o, none⟩ /\ b < w.heap.size /\ In w b o l' := by
     rcases HA'.out with h | h
     . subst h; simp at hll; omega
     . exact h
    have hp : (l'[n]'(by omega)).p = l[n].p := by
     have h1 : (l'.map RC.p)[n]'(by simp; omega) = (l.map RC.p)[n]'(by simpa using hlt) := by simp only [HS.out]
     simpa using h1
    obtain ⟨c0, c1, c2⟩ := (hin.below hbs hbl).getRC n hlt
    obtain ⟨d0, d1, d2⟩ := (hin'.below hbs' hbl).getRC n (by omega)
    have hat := HE.out _ (List.getElem_mem hlt)
    have hat' := HE'.out _ (List.getElem_mem (show n < l'.length by omega))
    have hms := Hr.out _ (List.getElem_mem hlt)
    generalize l'[n]'(by omega) = y at hp d0 d1 d2 hat'
    generalize l[n] = x at hp c0 c1 c2 hat hms
    obtain ⟨yst, yne, yA, yc, yi⟩ := y
    obtain ⟨st, ne, xA, xc, xi⟩ := x
    simp only [RC.p, PR.mk.injEq] at hp
    obtain ⟨rfl, rfl, rfl⟩ := hp
    simp only at c0 c1 c2 d0 d1 d2 hat hat' hms
    have Hat := hidP (hat.below hbl)
    have Hat' := hidP (hat'.below hbl)
    clear hat hat' hll
    have hb1 : b < wr.heap.size := Nat.lt_of_lt_of_le hbs hbl.size
    have hb2 : b' < wr.heap.size := Nat.lt_of_lt_of_le hbs' hbl.size
    have hi0 : (0 : Int) <= (n : Int) := by omega
    have hi1 : (n : Int) < (l.length : Int) := by omega
    go_wp2
    go_region_held3 (fun w' => w'.cell? ⟨b, o + n * 3, none⟩ = some (.int .i64 yst) /\ w'.cell? ⟨b, o + n * 3 + 1, none⟩ = some (.int .i64 yne) /\ w'.cell? ⟨b, o + n * 3 + 2, none⟩ = some (.slice xA yi.length xc) /\
     w'.cell? ⟨b', o' + n * 3, none⟩ = some (.int .i64 yst) /\ w'.cell? ⟨b', o' + n * 3 + 1, none⟩ = some (.int .i64 yne) /\ w'.cell? ⟨b', o' + n * 3 + 2, none⟩ = some (.slice yA yi.length yc) /\ wr.heap.size <= w'.heap.size)
     (first | (go_split_ands; refine ⟨?_, ?_, ?_, ?_, ?_, ?_, ?_⟩<;>first | assumption | exact (k1 _ _ hb1).trans (by assumption) | exact (k1 _ _ hb2).trans (by assumption) | exact s1 | (simp; done)) | go_keep)
     (first
      | (go_at_call 174; refine (Items.eqRow_same _ _ _ _ _ _ yi hms _ (Hat.out.below (Below.drew (Below.refl _ _))) (Hat'.out.below (Below.drew (Below.refl _ _)))).mono ?_; rintro e w1 ⟨rfl, g1⟩; obtain ⟨k1, m1⟩ := Qax g1; have s1 := g1.size))
    all_goals
     go_wp2
     exact ⟨⟨n + 1, by go_num, by omega, via0 g1 hbl.drew⟩, by simp [intOf]; omega⟩
  . go_wp2
    go_ret
    exact ⟨rfl, hbl⟩
def cR (x : RC) : Nat := 2 + x.its.length * 5
def mR (x : RC) (z : Int) : RC := ⟨z, z + 1, x.A, x.cap, Items.marks x.its.length (z + 2)⟩
theorem Qh2 (A : Option Addr) (cap : Nat) (k : Int) (w : World) :
 Calls Tryz.prog 103 #[.slice A 0 cap, .int .i64 k] w fun e w' => e = .returned (.int .i64 k) /\ Below w.heap.size w w' := by
 go_enter Tryz.func103, Tryz.ntmps103
 go_wp2
 go_loopw [1, 5] (fun kk i w' => kk = .int .i64 k /\ i = .int .i64 0 /\ w' = w) (fun _ _ _ => 0)
 case atStart => exact ⟨rfl, rfl, rfl⟩
 case round =>
  obtain ⟨rfl, rfl, rfl⟩ := hrel
  go_wp2
  go_ret
  exact ⟨rfl, Below.refl _ _⟩
theorem mark_items (a : Option Addr) (cap : Nat) (l : List It) (S : Nat -> Prop) (k : Int) (hk : 1 <= k) (hk' : k <= 100000000) (hl : l.length <= 1048576) (w : World) (h : Sub w a l S) :
 Calls Tryz.prog 103 #[.slice a l.length cap, .int .i64 k] w fun e w' => e = .returned (.int .i64 (k + (l.length : Int) * 5)) /\ Offp S w w' /\ Sub w' a (Items.marks l.length k) S := by
 rcases h with rfl | ⟨b, o, rfl, hS, hb, hi, ht⟩
 . refine (Qh2 a cap k w).mono ?_
   rintro e w' ⟨rfl, g⟩
   exact ⟨by simp, Offp.of_below g, .inl rfl⟩
 . refine (Items.markItemS_any b o cap l.length k hk hk' hl w hb ht).mono ?_
   rintro e w' ⟨rfl, ko, hin, hth⟩
   have ko' : Only b w w' := ⟨ko.os, ko.tape, ko.output, ko.size, ko.block⟩
   exact ⟨rfl, (Offp.of_only ko').mono (fun x e => e ▸ hS), .inr ⟨b, o, rfl, hS, Nat.lt_of_lt_of_le hb ko.size, hin, by rw [Items.marks_length]; exact hth⟩⟩
theorem Qk8 (b o cap : Nat) (l : List RC) (fp : Nat -> Nat -> Prop) (k : Int) (hk : 1 <= k) (hk' : k <= 50000000) (hc : Qak cR l <= 50000000) (hl : l.length <= 1048576) (hs : ∀ x ∈ l, x.its.length <= 1048576) (w : World) (hO : OwnF rowP w b o l fp) :
 Calls Tryz.prog 56 #[.slice (some ⟨b, o, none⟩) l.length cap, .int .i64 k] w fun e w' => e = .returned (.int .i64 (k + (Qak cR l : Int))) /\ Offp (fun x => x = b ∨ ∃ i, fp i x) w w' /\ OwnF rowP w' b o (marked mR cR l k) fp := by
 have HO := hidP hO
 have Hs := hidP hs
 have Hc := hidP hc
 clear hO hs hc
 go_enter Tryz.func56, Tryz.ntmps56
 go_wp2
 go_loopw [1, 5] (fun kk i w' => ∃ (n : Nat) (z : Int), i = .int .i64 (n : Int) /\ kk = .int .i64 z /\ n <= l.length /\ 1 <= z /\ z <= 100000000 /\ Hid (z = k + (Qak cR (l.take n) : Int)) /\ Hid (Offp (fun x => x = b ∨ ∃ i, fp i x) w w') /\ Hid (OwnF rowP w' b o (half mR cR l k n) fp)) (fun _ i _ => l.length - (intOf i).toNat)
 case atStart => exact ⟨0, k, rfl, rfl, by omega, hk, by omega, by simp [Hid, Qak], Offp.refl _ _, by rw [Qeo]; exact HO.out⟩
 case round =>
  obtain ⟨n, z, rfl, rfl, hn, hz1, hz2, hz, hoff, hown⟩ := hrel
  by_cases hlt : n < l.length
  . have hhl := Qdp mR cR l k n
    have hge := Qfn mR cR l k n hlt (by omega)
    have hit := Hs.out _ (List.getElem_mem hlt)
    obtain ⟨c0, c1, c2⟩ := hown.out.lst.getRC n (by omega)
    have hth := hown.out.th
    rw [hhl] at hth
    obtain ⟨_, f0⟩ := Qaq (f := 0) hth hlt (by decide)
    obtain ⟨_, f1⟩ := Qaq (f := 1) hth hlt (by decide)
    simp only [Nat.add_zero, show Cel.k RC = 3 from rfl] at f0 f1
    rw [hge] at c0 c1 c2
    have hsu := Qep mR cR l k n hlt
    rw [← hz.out] at hsu
    have hcn : Qak cR (l.take n) + cR l[n] <= 50000000 := by rw [← Qa5 cR l n hlt]; exact Nat.le_trans (Qda cR l (n + 1)) Hc.out
    have Hsn := hidP (Qa5 cR l n hlt)
    generalize hx : l[n] = x at c0 c1 c2 hit hsu hcn hge Hsn
    obtain ⟨st, ne, xA, xc, xi⟩ := x
    simp only at c0 c1 c2 hit
    have O1 := hown.out.set1 Qb1 n (by omega) ⟨z, ne, xA, xc, xi⟩ 0 (by decide) (.int .i64 z) (by rw [hge]; rfl) (fun W S h => by rw [hge] at h; exact h)
    have O2 := O1.set1 Qb1 n (by simp; omega) ⟨z, z + 1, xA, xc, xi⟩ 1 (by decide) (.int .i64 (z + 1)) (by rw [List.getElem_set_self]; rfl) (fun W S h => by rw [List.getElem_set_self] at h; exact h)
    simp only [Nat.add_zero, show Cel.k RC = 3 from rfl, List.set_set] at O1 O2
    have Hhl := hidP hhl
    have Hsu := hidP hsu
    have Hcn := hidP hcn
    have HO2 := hidP O2
    have hsub := O2.sub n (by simp; omega)
    rw [List.getElem_set_self] at hsub
    have Hsub := hidP hsub
    have hz' := hz.out
    have hzc : z + 2 <= 100000000 := by
     have h3 := Hcn.out; simp only [cR] at h3; omega
    clear hx hhl hsu hcn O1 O2 hsub hge hth hz'
    go_wp2_with fail
    refine (mark_items xA xc xi (fp n) _ (by omega) (by omega) hit _ Hsub.out).mono ?_
    rintro e w1 ⟨rfl, ko, hsb⟩
    have hlim : xi.length * 5 + 2 <= 50000000 := by have := Hcn.out; simp only [cR] at this; omega
    go_wp2
    have hz' := hz.out
    have hcs : Cel.cs (mR ⟨st, ne, xA, xc, xi⟩ z) = Cel.cs (⟨z, z + 1, xA, xc, xi⟩ : RC) := by
     show [Value.int .i64 z, .int .i64 (z + 1), .slice xA (Items.marks xi.length (z + 2)).length xc] = [.int .i64 z, .int .i64 (z + 1), .slice xA xi.length xc]
     rw [Items.marks_length]
    have hsb' : rowP w1 (mR ⟨st, ne, xA, xc, xi⟩ z) (fp n) := by
     have e : z + 1 + 1 = z + 2 := by omega
     rw [e] at hsb
     exact hsb
    have O3 := HO2.out.turn Qb1 n (by rw [List.length_set]; have := Hhl.out; omega) (mR ⟨st, ne, xA, xc, xi⟩ z) (by rw [List.getElem_set_self]; exact hcs) ko hsb'
    rw [List.set_set, ← Hsu.out] at O3
    refine ⟨⟨n + 1, z + 1 + 1 + (xi.length : Int) * 5, by go_num, rfl, by omega, by omega, ?_, ?_, ?_, O3⟩, by simp [intOf]; omega⟩
    . have := Hcn.out; simp only [cR] at this; omega
    . show _ = _; rw [Hsn.out, hz']; simp only [cR]; omega
    . exact ((hoff.out.set (.inl rfl) _ _).set (.inl rfl) _ _).trans (ko.mono (fun x hx => .inr ⟨n, hx⟩))
  . obtain rfl : n = l.length := by omega
    go_wp2
    go_ret
    have e := hz.out
    rw [Qcr cR l _ (Nat.le_refl _)] at e
    have hh := hown.out
    rw [Qfo mR cR l k _ (Nat.le_refl _)] at hh
    subst e
    exact ⟨rfl, hoff.out, hh⟩
theorem Qgf (A : Option Addr) (cap : Nat) (l : List RC) (k : Int) (hk : 1 <= k) (hk' : k <= 50000000) (hc : Qak cR l <= 50000000) (hl : l.length <= 1048576) (hs : ∀ x ∈ l, x.its.length <= 1048576) (w : World) (hA : At w A (marked mR cR l k)) (hE : EachR w (marked mR cR l k)) :
 Calls Tryz.prog 64 #[.slice A l.length cap, .int .i64 k] w fun e w' => e = .returned (.int .i64 (k + (Qak cR l : Int))) /\ Below w.heap.size w w' := by
 have HA := hidP hA
 have HE := hidP hE
 have Hs := hidP hs
 have Hc := hidP hc
 clear hA hE hs hc
 have HML := hidP (Qa0 mR cR l k)
 go_enter Tryz.func64, Tryz.ntmps64
 go_wp2
 go_loopw [1, 5] (fun kk i w' => ∃ (n : Nat) (z : Int), i = .int .i64 (n : Int) /\ kk = .int .i64 z /\ n <= l.length /\ 1 <= z /\ z <= 100000000 /\ Hid (z = k + (Qak cR (l.take n) : Int)) /\ Below w.heap.size w w') (fun _ i _ => l.length - (intOf i).toNat)
 case atStart => exact ⟨0, k, rfl, rfl, by omega, hk, by omega, by simp [Hid, Qak], Below.refl _ _⟩
 case round =>
  obtain ⟨n, z, rfl, rfl, hn, hz1, hz2, hz, hbl⟩ := hrel
  by_cases hlt : n < l.length
  . have hml := HML.out
    obtain ⟨b, o, rfl, hbs, hin⟩ : ∃ b o, A = some ⟨b, o, none⟩ /\ b < w.heap.size /\ In w b o (marked mR cR l k) := by
     rcases HA.out with h | h
     . rw [h] at hml; simp at hml; omega
     . exact h
    have hmn : n < (marked mR cR l k).length := by omega
    have hge := Qd1 mR cR l n hlt k hmn
    rw [← hz.out] at hge
    obtain ⟨c0, c1, c2⟩ := (hin.below hbs hbl).getRC n hmn
    have hat := (HE.out _ (List.getElem_mem hmn)).below hbl
    rw [hge] at c0 c1 c2 hat
    have hit := Hs.out _ (List.getElem_mem hlt)
    have hcn : Qak cR (l.take n) + cR l[n] <= 50000000 := by rw [← Qa5 cR l n hlt]; exact Nat.le_trans (Qda cR l (n + 1)) Hc.out
    have Hsn := hidP (Qa5 cR l n hlt)
    generalize hx : l[n] = x at c0 c1 c2 hit hcn hat Hsn
    obtain ⟨st, ne, xA, xc, xi⟩ := x
    simp only [mR, Items.marks_length] at c0 c1 c2 hit hat
    have HAt : Hid (xi.length = 0 ∨ ∃ b o, xA = some ⟨b, o, none⟩ /\ b < wr.heap.size /\ Items.In wr b o (Items.marks xi.length (z + 1 + 1))) := by
     have e2 : z + 1 + 1 = z + 2 := by omega
     rw [e2]
     rcases hat with h | h
     . exact .inl (by have := congrArg List.length h; simpa [Items.marks_length] using this)
     . exact .inr h
    have Hcn := hidP hcn
    have hzc : z + 2 <= 100000000 := by
     have h3 := hz.out; have h4 := Hcn.out; simp only [cR] at h4; omega
    have hlim : xi.length * 5 + 2 <= 50000000 := by have := Hcn.out; simp only [cR] at this; omega
    clear hml hge hx hcn hat
    have hneg : ¬ z + 1 + 1 + (xi.length : Int) * 5 < 0 := by omega
    go_wp2_with fail
    refine (Items.heldItemS_any xA xc xi.length (z + 1 + 1) (by omega) (by omega) hit _ HAt.out).mono ?_
    rintro e w1 ⟨rfl, g1⟩
    go_wp2
    have hz' := hz.out
    refine ⟨⟨n + 1, z + 1 + 1 + (xi.length : Int) * 5, by go_num, rfl, by omega, by omega, ?_, ?_, via0 g1 hbl⟩, by simp [intOf]; omega⟩
    . have := Hcn.out; simp only [cR] at this; omega
    . show _ = _; rw [Hsn.out, hz']; simp only [cR]; omega
  . obtain rfl : n = l.length := by omega
    go_wp2
    go_ret
    have e := hz.out
    rw [Qcr cR l _ (Nat.le_refl _)] at e
    subst e
    exact ⟨rfl, hbl⟩
end Go.Proofs.YtenhcjkkpnlbeaaGreatDoor.Gen
namespace Go.Proofs.YtenhcjkkpnlbeaaGreatDoor.Gen
open ChangeShapes WideShapes ChangeAt RowKit Joins Deep Base
structure Three (n : Nat) (w : World) (x y z : Nat) (m b o : List Int) : Prop where
  nx : n <= x
  xy : x < y
  yz : y < z
  zs : z < w.heap.size
  im : In w x 0 m
  ib : In w y 0 b
  io : In w z 0 o
  tm : w.there x 0 (m.length * 1)
  tb : w.there y 0 (b.length * 1)
  to : w.there z 0 (o.length * 1)
theorem Qly (gen : Int) (A B C A' B' C' : Option Addr) (ca cb cc ca' cb' cc' : Nat) (m b o : List Int) (hm : m.length <= 9223372036854775807) (hb : b.length <= 9223372036854775807) (ho : o.length <= 9223372036854775807) (w : World)
 (hA : At w A m) (hB : At w B b) (hC : At w C o) (hA' : At w A' m) (hB' : At w B' b) (hC' : At w C' o) :
 Calls Tryz.prog 176 #[.agg (Qa3 gen A m.length ca B b.length cb C o.length cc), .agg (Qa3 gen A' m.length ca' B' b.length cb' C' o.length cc')] w fun e w' => e = .returned (.bool true) /\ Below w.heap.size w w' := by
 have HA := hidP hA
 have HB := hidP hB
 have HC := hidP hC
 have HA' := hidP hA'
 have HB' := hidP hB'
 have HC' := hidP hC'
 clear hA hB hC hA' hB' hC'
 go_enter Tryz.func176, Tryz.ntmps176
 go_wp2_with fail
 have B0 : Below w.heap.size w ((w.alloc (.cells (Qa3 gen A m.length ca B b.length cb C o.length cc) 110)).alloc (.cells (Qa3 gen A' m.length ca' B' b.length cb' C' o.length cc') 110)) := by repeat (first | exact Below.refl _ _ | assumption | refine via0 (by assumption) ?_ | refine Below.drew ?_ | refine Qab ?_ _)
 have p0 : Blk ((w.alloc (.cells (Qa3 gen A m.length ca B b.length cb C o.length cc) 110)).alloc (.cells (Qa3 gen A' m.length ca' B' b.length cb' C' o.length cc') 110)) w.heap.size 110 (Qa3 gen A m.length ca B b.length cb C o.length cc) := (Blk.new w 110 (Qa3 gen A m.length ca B b.length cb C o.length cc)).alloc _
 have p1 : Blk ((w.alloc (.cells (Qa3 gen A m.length ca B b.length cb C o.length cc) 110)).alloc (.cells (Qa3 gen A' m.length ca' B' b.length cb' C' o.length cc') 110)) (w.heap.size + 1) 110 (Qa3 gen A' m.length ca' B' b.length cb' C' o.length cc') := by simpa using Blk.new (w.alloc (.cells (Qa3 gen A m.length ca B b.length cb C o.length cc) 110)) 110 (Qa3 gen A' m.length ca' B' b.length cb' C' o.length cc')
 refine (Qc5 A A' ca ca' m hm _ (HA.out.below B0) (HA'.out.below B0)).mono ?_
 rintro e w1 ⟨rfl, g1⟩
 have B1 := via0 g1 B0
 have r0 := p0.below g1 p0.lt
 have r1 := p1.below g1 p1.lt
 clear p0 p1 g1 B0
 obtain ⟨u0, u1, u2, u3⟩ := r0.row4
 obtain ⟨n0, n1, n2, n3⟩ := r1.row4
 go_wp2_with fail
 refine (Qc5 B B' cb cb' b hb _ (HB.out.below B1) (HB'.out.below B1)).mono ?_
 rintro e w2 ⟨rfl, g2⟩
 have B2 := via0 g2 B1
 have s0 := r0.below g2 r0.lt
 have s1 := r1.below g2 r1.lt
 clear r0 r1 g2 B1 u0 u1 u2 u3 n0 n1 n2 n3
 obtain ⟨u0, u1, u2, u3⟩ := s0.row4
 obtain ⟨n0, n1, n2, n3⟩ := s1.row4
 go_wp2_with fail
 refine (Qc5 C C' cc cc' o ho _ (HC.out.below B2) (HC'.out.below B2)).mono ?_
 rintro e w3 ⟨rfl, g3⟩
 have B3 := via0 g3 B2
 go_wp2
 go_ret
 exact ⟨rfl, B3⟩
end Go.Proofs.YtenhcjkkpnlbeaaGreatDoor.Gen
namespace Go.Proofs.YtenhcjkkpnlbeaaGreatDoor.Gen
open ChangeShapes WideShapes ChangeAt RowKit Joins Deep Base
structure GC where
  gen : Int
  a1 : Option Addr
  c1 : Nat
  m : List Int
  a2 : Option Addr
  c2 : Nat
  b : List Int
  a3 : Option Addr
  c3 : Nat
  o : List Int
instance : Inhabited GC := ⟨⟨0, none, 0, [], none, 0, [], none, 0, []⟩⟩
instance : Cel GC where
  k := 4
  cs x := [.int .i64 x.gen, .slice x.a1 x.m.length x.c1, .slice x.a2 x.b.length x.c2, .slice x.a3 x.o.length x.c3]
  len _ := rfl
  one x u hu := by simp at hu; rcases hu with rfl | rfl | rfl | rfl<;>rfl
structure PG where
  gen : Int
  m : List Int
  b : List Int
  o : List Int
def GC.p (x : GC) : PG := ⟨x.gen, x.m, x.b, x.o⟩
def atG (w : World) (x : GC) : Prop := At w x.a1 x.m /\ At w x.a2 x.b /\ At w x.a3 x.o
theorem atG.below {w w' : World} {x : GC} (h : atG w x) (hw : Below w.heap.size w w') : atG w' x := ⟨h.1.below hw, h.2.1.below hw, h.2.2.below hw⟩
def EachG (w : World) (l : List GC) : Prop := ∀ x ∈ l, atG w x
theorem EachG.below {w w' : World} {l : List GC} (h : EachG w l) (hw : Below w.heap.size w w') : EachG w' l := fun x hx => (h x hx).below hw
def grpP (w : World) (x : GC) (S : Nat -> Prop) : Prop :=
  ∃ S1 S2 S3 : Nat -> Prop, (∀ y, S1 y -> S y) /\ (∀ y, S2 y -> S y) /\ (∀ y, S3 y -> S y) /\ (∀ y, S1 y -> ¬ S2 y) /\ (∀ y, S1 y -> ¬ S3 y) /\ (∀ y, S2 y -> ¬ S3 y) /\ Sub w x.a1 x.m S1 /\ Sub w x.a2 x.b S2 /\ Sub w x.a3 x.o S3
theorem Qbd : Firm grpP := fun w w' x S T ⟨S1, S2, S3, i1, i2, i3, d1, d2, d3, s1, s2, s3⟩ k hd =>
 ⟨S1, S2, S3, i1, i2, i3, d1, d2, d3, s1.offp k (fun y hy => hd y (i1 y hy)), s2.offp k (fun y hy => hd y (i2 y hy)), s3.offp k (fun y hy => hd y (i3 y hy))⟩
theorem grpP_at {w : World} {x : GC} {S : Nat -> Prop} (h : grpP w x S) : atG w x := by
 obtain ⟨S1, S2, S3, i1, i2, i3, d1, d2, d3, s1, s2, s3⟩ := h
 exact ⟨s1.at, s2.at, s3.at⟩
theorem grpP_each {S : Nat -> Prop} {w : World} {a : Option Addr} {l : List GC} (h : Own grpP w a l S) : EachG w l := h.each (fun x S hx => grpP_at hx)
theorem In.getGC {w : World} {b o : Nat} {l : List GC} (h : In w b o l) (i : Nat) (hi : i < l.length) :
 w.cell? ⟨b, o + i * 4, none⟩ = some (.int .i64 l[i].gen) /\ w.cell? ⟨b, o + i * 4 + 1, none⟩ = some (.slice l[i].a1 l[i].m.length l[i].c1) /\ w.cell? ⟨b, o + i * 4 + 2, none⟩ = some (.slice l[i].a2 l[i].b.length l[i].c2) /\ w.cell? ⟨b, o + i * 4 + 3, none⟩ = some (.slice l[i].a3 l[i].o.length l[i].c3) :=
 ⟨h.cell i hi (f := 0) rfl, h.cell i hi (f := 1) rfl, h.cell i hi (f := 2) rfl, h.cell i hi (f := 3) rfl⟩
theorem infoGC : (Tryz.prog.info? 110).map (fun i => (i.zero, i.size, i.bytes)) = some (some (.agg Qg8), 4, 80) := by kernel_rfl
theorem Qjm (A A' : Option Addr) (cap cap' : Nat) (l l' : List GC) (hl : l.length <= 9223372036854775807) (hr : ∀ x ∈ l, x.m.length <= 9223372036854775807 /\ x.b.length <= 9223372036854775807 /\ x.o.length <= 9223372036854775807) (hsame : l'.map GC.p = l.map GC.p) (w : World) (hA : At w A l) (hE : EachG w l) (hA' : At w A' l') (hE' : EachG w l') :
 Calls Tryz.prog 145 #[.slice A l.length cap, .slice A' l.length cap'] w fun e w' => e = .returned (.bool true) /\ Below w.heap.size w w' := by
 have HA := hidP hA
 have HE := hidP hE
 have HA' := hidP hA'
 have HE' := hidP hE'
 have Hr := hidP hr
 have HS := hidP hsame
 have HLL : Hid (l'.length = l.length) := by have := congrArg List.length hsame; show _ = _; simpa using this
 clear hA hE hA' hE' hr hsame
 go_enter Tryz.func145, Tryz.ntmps145
 go_wp2
 go_loopw [5] (fun i w' => ∃ (n : Nat), i = .int .i64 (n : Int) /\ n <= l.length /\ Below w.heap.size w w') (fun i _ => l.length - (intOf i).toNat)
 case atStart => exact ⟨0, rfl, by omega, Below.refl _ _⟩
 case round =>
  obtain ⟨n, rfl, hn, hbl⟩ := hrel
  by_cases hlt : n < l.length
  . have hll := HLL.out
    obtain ⟨b, o, rfl, hbs, hin⟩ : ∃ b o, A = some ⟨b, o, none⟩ /\ b < w.heap.size /\ In w b o l := by
     rcases HA.out with h | h
     . subst h; simp at hlt
     . exact h
    obtain ⟨b', o', rfl, hbs', hin'⟩ : ∃ b o, A' = some ⟨b, o, none⟩ /\ b < w.heap.size /\ In w b o l' := by
     rcases HA'.out with h | h
     . subst h; simp at hll; omega
     . exact h
    have hp : (l'[n]'(by omega)).p = l[n].p := by
     have h1 : (l'.map GC.p)[n]'(by simp; omega) = (l.map GC.p)[n]'(by simpa using hlt) := by simp only [HS.out]
     simpa using h1
    obtain ⟨c0, c1, c2, c3⟩ := (hin.below hbs hbl).getGC n hlt
    obtain ⟨d0, d1, d2, d3⟩ := (hin'.below hbs' hbl).getGC n (by omega)
    have hat := HE.out _ (List.getElem_mem hlt)
    have hat' := HE'.out _ (List.getElem_mem (show n < l'.length by omega))
    have hms := Hr.out _ (List.getElem_mem hlt)
    generalize l'[n]'(by omega) = y at hp d0 d1 d2 d3 hat'
    generalize l[n] = x at hp c0 c1 c2 c3 hat hms
    obtain ⟨yg, y1, yc1, ym, y2, yc2, yb, y3, yc3, yo⟩ := y
    obtain ⟨xg, x1, xc1, xm, x2, xc2, xb, x3, xc3, xo⟩ := x
    simp only [GC.p, PG.mk.injEq] at hp
    obtain ⟨rfl, rfl, rfl, rfl⟩ := hp
    simp only at c0 c1 c2 c3 d0 d1 d2 d3 hms
    have Hat := hidP (hat.below hbl)
    have Hat' := hidP (hat'.below hbl)
    clear hat hat' hll
    have hb1 : b < wr.heap.size := Nat.lt_of_lt_of_le hbs hbl.size
    have hb2 : b' < wr.heap.size := Nat.lt_of_lt_of_le hbs' hbl.size
    have hi0 : (0 : Int) <= (n : Int) := by omega
    have hi1 : (n : Int) < (l.length : Int) := by omega
    go_wp2
    go_region_held3 (fun w' => w'.cell? ⟨b, o + n * 4, none⟩ = some (.int .i64 yg) /\ w'.cell? ⟨b, o + n * 4 + 1, none⟩ = some (.slice x1 ym.length xc1) /\ w'.cell? ⟨b, o + n * 4 + 2, none⟩ = some (.slice x2 yb.length xc2) /\ w'.cell? ⟨b, o + n * 4 + 3, none⟩ = some (.slice x3 yo.length xc3) /\
     w'.cell? ⟨b', o' + n * 4, none⟩ = some (.int .i64 yg) /\ w'.cell? ⟨b', o' + n * 4 + 1, none⟩ = some (.slice y1 ym.length yc1) /\ w'.cell? ⟨b', o' + n * 4 + 2, none⟩ = some (.slice y2 yb.length yc2) /\ w'.cell? ⟨b', o' + n * 4 + 3, none⟩ = some (.slice y3 yo.length yc3) /\ wr.heap.size <= w'.heap.size)
     (first | (go_split_ands; refine ⟨?_, ?_, ?_, ?_, ?_, ?_, ?_, ?_, ?_⟩<;>first | assumption | exact (k1 _ _ hb1).trans (by assumption) | exact (k1 _ _ hb2).trans (by assumption) | exact s1 | (simp; done)) | go_keep)
     (first
      | (go_at_call 176; refine (Qly _ _ _ _ _ _ _ _ _ _ _ _ _ ym yb yo hms.1 hms.2.1 hms.2.2 _ (Hat.out.1.below (Below.drew (Below.refl _ _))) (Hat.out.2.1.below (Below.drew (Below.refl _ _))) (Hat.out.2.2.below (Below.drew (Below.refl _ _))) (Hat'.out.1.below (Below.drew (Below.refl _ _))) (Hat'.out.2.1.below (Below.drew (Below.refl _ _))) (Hat'.out.2.2.below (Below.drew (Below.refl _ _)))).mono ?_; rintro e w1 ⟨rfl, g1⟩; obtain ⟨k1, m1⟩ := Qax g1; have s1 := g1.size))
    all_goals
     go_wp2
     exact ⟨⟨n + 1, by go_num, by omega, via0 g1 hbl.drew⟩, by simp [intOf]; omega⟩
  . go_wp2
    go_ret
    exact ⟨rfl, hbl⟩
def cG (x : GC) : Nat := 1 + x.m.length + x.b.length + x.o.length
def mG (x : GC) (z : Int) : GC := ⟨z, x.a1, x.c1, Qa2 x.m.length (z + 1), x.a2, x.c2, Qa2 x.b.length (z + 1 + x.m.length), x.a3, x.c3, Qa2 x.o.length (z + 1 + x.m.length + x.b.length)⟩
theorem Qdd (a : Option Addr) (cap : Nat) (l : List Int) (S : Nat -> Prop) (k : Int) (hk : 1 <= k) (hk' : k <= 100000000) (hl : l.length <= 2000000) (w : World) (h : Sub w a l S) :
 Calls Tryz.prog 24 #[.slice a l.length cap, .int .i64 k] w fun e w' => e = .returned (.int .i64 (k + (l.length : Int))) /\ Offp S w w' /\ Sub w' a (Qa2 l.length k) S := by
 rcases h with rfl | ⟨b, o, rfl, hS, hb, hi, ht⟩
 . refine (Qlb a cap k w).mono ?_
   rintro e w' ⟨rfl, rfl⟩
   exact ⟨by simp, Offp.refl _ _, .inl rfl⟩
 . refine (Qms b o cap l.length k hk hk' hl w hb ht).mono ?_
   rintro e w' ⟨rfl, ko, hin, hth⟩
   exact ⟨rfl, (Offp.of_only ko).mono (fun x e => e ▸ hS), .inr ⟨b, o, rfl, hS, Nat.lt_of_lt_of_le hb ko.size, hin, by rw [Qat]; exact hth⟩⟩
theorem Qh4 (b o cap : Nat) (l : List GC) (fp : Nat -> Nat -> Prop) (k : Int) (hk : 1 <= k) (hk' : k <= 50000000) (hc : Qak cG l <= 50000000) (hl : l.length <= 1048576) (hs : ∀ x ∈ l, x.m.length <= 1048576 /\ x.b.length <= 1048576 /\ x.o.length <= 1048576) (w : World) (hO : OwnF grpP w b o l fp) :
 Calls Tryz.prog 58 #[.slice (some ⟨b, o, none⟩) l.length cap, .int .i64 k] w fun e w' => e = .returned (.int .i64 (k + (Qak cG l : Int))) /\ Offp (fun x => x = b ∨ ∃ i, fp i x) w w' /\ OwnF grpP w' b o (marked mG cG l k) fp := by
 have HO := hidP hO
 have Hs := hidP hs
 have Hc := hidP hc
 clear hO hs hc
 go_enter Tryz.func58, Tryz.ntmps58
 go_wp2
 go_loopw [1, 5] (fun kk i w' => ∃ (n : Nat) (z : Int), i = .int .i64 (n : Int) /\ kk = .int .i64 z /\ n <= l.length /\ 1 <= z /\ z <= 100000000 /\ Hid (z = k + (Qak cG (l.take n) : Int)) /\ Hid (Offp (fun x => x = b ∨ ∃ i, fp i x) w w') /\ Hid (OwnF grpP w' b o (half mG cG l k n) fp)) (fun _ i _ => l.length - (intOf i).toNat)
 case atStart => exact ⟨0, k, rfl, rfl, by omega, hk, by omega, by simp [Hid, Qak], Offp.refl _ _, by rw [Qeo]; exact HO.out⟩
 case round =>
  obtain ⟨n, z, rfl, rfl, hn, hz1, hz2, hz, hoff, hown⟩ := hrel
  by_cases hlt : n < l.length
  . have hhl := Qdp mG cG l k n
    have hge := Qfn mG cG l k n hlt (by omega)
    have hit := Hs.out _ (List.getElem_mem hlt)
    obtain ⟨c0, c1, c2, c3⟩ := hown.out.lst.getGC n (by omega)
    have hth := hown.out.th
    rw [hhl] at hth
    obtain ⟨_, f0⟩ := Qaq (f := 0) hth hlt (by decide)
    simp only [Nat.add_zero, show Cel.k GC = 4 from rfl] at f0
    rw [hge] at c0 c1 c2 c3
    have hsu := Qep mG cG l k n hlt
    rw [← hz.out] at hsu
    have hcn : Qak cG (l.take n) + cG l[n] <= 50000000 := by rw [← Qa5 cG l n hlt]; exact Nat.le_trans (Qda cG l (n + 1)) Hc.out
    have Hsn := hidP (Qa5 cG l n hlt)
    generalize hx : l[n] = x at c0 c1 c2 c3 hit hsu hcn hge Hsn
    obtain ⟨xg, x1, xc1, xm, x2, xc2, xb, x3, xc3, xo⟩ := x
    simp only at c0 c1 c2 c3 hit
    have O1 := hown.out.set1 Qbd n (by omega) ⟨z, x1, xc1, xm, x2, xc2, xb, x3, xc3, xo⟩ 0 (by decide) (.int .i64 z) (by rw [hge]; rfl) (fun W S h => by rw [hge] at h; exact h)
    simp only [Nat.add_zero, show Cel.k GC = 4 from rfl] at O1
    have Hhl := hidP hhl
    have Hsu := hidP hsu
    have Hcn := hidP hcn
    have HO1 := hidP O1
    have hsub := O1.sub n (by simp; omega)
    rw [List.getElem_set_self] at hsub
    obtain ⟨S1, S2, S3, i1, i2, i3, e1, e2, e3, s1, s2, s3⟩ := hsub
    have hlen : n < ((half mG cG l k n).set n ⟨z, x1, xc1, xm, x2, xc2, xb, x3, xc3, xo⟩).length := by rw [List.length_set]; omega
    have Hlen := hidP hlen
    have H1 := hidP s1
    have H2 := hidP s2
    have H3 := hidP s3
    have hzc : z + 1 + xm.length + xb.length + xo.length <= 100000000 := by
     have h3 := hz.out; have h4 := Hcn.out; simp only [cG] at h4; omega
    clear hx hhl hsu hcn O1 hge hth s1 s2 s3 hlen
    go_wp2_with fail
    refine (Qdd x1 xc1 xm S1 (z + 1) (by omega) (by omega) (by omega) _ H1.out).mono ?_
    rintro e w1 ⟨rfl, k1, t1⟩
    have O2 := HO1.out.turn Qbd n Hlen.out ⟨z, x1, xc1, Qa2 xm.length (z + 1), x2, xc2, xb, x3, xc3, xo⟩ (by rw [List.getElem_set_self]; simp only [Cel.cs, Qat, mG]) (k1.mono i1) ⟨S1, S2, S3, i1, i2, i3, e1, e2, e3, t1, H2.out.offp k1 (fun y h h' => e1 y h' h), H3.out.offp k1 (fun y h h' => e2 y h' h)⟩
    rw [List.set_set] at O2
    obtain ⟨_, _, c2', c3'⟩ := O2.lst.getGC n (by simp; have := Hhl.out; omega)
    simp only [List.getElem_set_self] at c2' c3'
    have HO2 := hidP O2
    have Hk1 := hidP k1
    have Ht1 := hidP t1
    clear c0 c1 c2 c3 O2 k1 t1
    go_wp2_with fail
    refine (Qdd x2 xc2 xb S2 _ (by omega) (by omega) (by omega) _ (H2.out.offp Hk1.out (fun y h h' => e1 y h' h))).mono ?_
    rintro e w2 ⟨rfl, k2, t2⟩
    have O3 := HO2.out.turn Qbd n (by rw [List.length_set]; have := Hhl.out; omega) ⟨z, x1, xc1, Qa2 xm.length (z + 1), x2, xc2, Qa2 xb.length (z + 1 + xm.length), x3, xc3, xo⟩ (by rw [List.getElem_set_self]; simp only [Cel.cs, Qat, mG]) (k2.mono i2) ⟨S1, S2, S3, i1, i2, i3, e1, e2, e3, Ht1.out.offp k2 e1, t2, (H3.out.offp Hk1.out (fun y h h' => e2 y h' h)).offp k2 (fun y h h' => e3 y h' h)⟩
    rw [List.set_set] at O3
    obtain ⟨_, _, _, c3⟩ := O3.lst.getGC n (by simp; have := Hhl.out; omega)
    simp only [List.getElem_set_self] at c3
    have HO3 := hidP O3
    have Hk2 := hidP k2
    have Ht2 := hidP t2
    clear c2' c3' O3 k2 t2
    go_wp2_with fail
    refine (Qdd x3 xc3 xo S3 _ (by omega) (by omega) (by omega) _ ((H3.out.offp Hk1.out (fun y h h' => e2 y h' h)).offp Hk2.out (fun y h h' => e3 y h' h))).mono ?_
    rintro e w3 ⟨rfl, k3, t3⟩
    have O4 := HO3.out.turn Qbd n (by rw [List.length_set]; have := Hhl.out; omega) (mG ⟨xg, x1, xc1, xm, x2, xc2, xb, x3, xc3, xo⟩ z) (by rw [List.getElem_set_self]; simp only [Cel.cs, Qat, mG]) (k3.mono i3) ⟨S1, S2, S3, i1, i2, i3, e1, e2, e3, (Ht1.out.offp Hk2.out e1).offp k3 e2, Ht2.out.offp k3 e3, t3⟩
    rw [List.set_set, ← Hsu.out] at O4
    have HO4 := hidP O4
    have Hk3 := hidP k3
    clear O4 k3 t3
    go_wp2
    have hz' := hz.out
    refine ⟨⟨n + 1, z + 1 + (xm.length : Int) + (xb.length : Int) + (xo.length : Int), by go_num, rfl, by omega, by omega, by omega, ?_, ?_, HO4.out⟩, by simp [intOf]; omega⟩
    . show _ = _; rw [Hsn.out, hz']; simp only [cG]; omega
    . exact (((hoff.out.set (.inl rfl) _ _).trans (Hk1.out.mono (fun x hx => .inr ⟨n, i1 x hx⟩))).trans (Hk2.out.mono (fun x hx => .inr ⟨n, i2 x hx⟩))).trans (Hk3.out.mono (fun x hx => .inr ⟨n, i3 x hx⟩))
  . obtain rfl : n = l.length := by omega
    go_wp2
    go_ret
    have e := hz.out
    rw [Qcr cG l _ (Nat.le_refl _)] at e
    have hh := hown.out
    rw [Qfo mG cG l k _ (Nat.le_refl _)] at hh
    subst e
    exact ⟨rfl, hoff.out, hh⟩
theorem Qne {W : World} {a : Option Addr} {q : Nat} {z : Int} (h : At W a (Qa2 q z)) : q = 0 ∨ ∃ b o, a = some ⟨b, o, none⟩ /\ b < W.heap.size /\ In W b o (Qa2 q z) :=
 h.imp (fun e => by have := congrArg List.length e; rw [Qat] at this; simpa using this) id
theorem Qe4 (A : Option Addr) (cap : Nat) (l : List GC) (k : Int) (hk : 1 <= k) (hk' : k <= 50000000) (hc : Qak cG l <= 50000000) (hl : l.length <= 1048576) (hs : ∀ x ∈ l, x.m.length <= 1048576 /\ x.b.length <= 1048576 /\ x.o.length <= 1048576) (w : World) (hA : At w A (marked mG cG l k)) (hE : EachG w (marked mG cG l k)) :
 Calls Tryz.prog 66 #[.slice A l.length cap, .int .i64 k] w fun e w' => e = .returned (.int .i64 (k + (Qak cG l : Int))) /\ Below w.heap.size w w' := by
 have HA := hidP hA
 have HE := hidP hE
 have Hs := hidP hs
 have Hc := hidP hc
 clear hA hE hs hc
 have HML := hidP (Qa0 mG cG l k)
 go_enter Tryz.func66, Tryz.ntmps66
 go_wp2
 go_loopw [1, 5] (fun kk i w' => ∃ (n : Nat) (z : Int), i = .int .i64 (n : Int) /\ kk = .int .i64 z /\ n <= l.length /\ 1 <= z /\ z <= 100000000 /\ Hid (z = k + (Qak cG (l.take n) : Int)) /\ Below w.heap.size w w') (fun _ i _ => l.length - (intOf i).toNat)
 case atStart => exact ⟨0, k, rfl, rfl, by omega, hk, by omega, by simp [Hid, Qak], Below.refl _ _⟩
 case round =>
  obtain ⟨n, z, rfl, rfl, hn, hz1, hz2, hz, hbl⟩ := hrel
  by_cases hlt : n < l.length
  . have hml := HML.out
    obtain ⟨b, o, rfl, hbs, hin⟩ : ∃ b o, A = some ⟨b, o, none⟩ /\ b < w.heap.size /\ In w b o (marked mG cG l k) := by
     rcases HA.out with h | h
     . rw [h] at hml; simp at hml; omega
     . exact h
    have hmn : n < (marked mG cG l k).length := by omega
    have hge := Qd1 mG cG l n hlt k hmn
    rw [← hz.out] at hge
    obtain ⟨c0, c1, c2, c3⟩ := (hin.below hbs hbl).getGC n hmn
    have hat := (HE.out _ (List.getElem_mem hmn)).below hbl
    rw [hge] at c0 c1 c2 c3 hat
    have hit := Hs.out _ (List.getElem_mem hlt)
    have hcn : Qak cG (l.take n) + cG l[n] <= 50000000 := by rw [← Qa5 cG l n hlt]; exact Nat.le_trans (Qda cG l (n + 1)) Hc.out
    have Hsn := hidP (Qa5 cG l n hlt)
    generalize hx : l[n] = x at c0 c1 c2 c3 hit hcn hat Hsn
    obtain ⟨xg, x1, xc1, xm, x2, xc2, xb, x3, xc3, xo⟩ := x
    simp only [mG, Qat] at c0 c1 c2 c3 hit
    simp only [mG, atG] at hat
    have Hat := hidP hat
    have Hcn := hidP hcn
    have hzc : z + 1 + xm.length + xb.length + xo.length <= 100000000 := by
     have h3 := hz.out; have h4 := Hcn.out; simp only [cG] at h4; omega
    have hb1 : b < wr.heap.size := Nat.lt_of_lt_of_le hbs hbl.size
    clear hml hge hx hcn hat
    have n1 : ¬ z + 1 + (xm.length : Int) < 0 := by omega
    have n2 : ¬ z + 1 + (xm.length : Int) + (xb.length : Int) < 0 := by omega
    have n3 : ¬ z + 1 + (xm.length : Int) + (xb.length : Int) + (xo.length : Int) < 0 := by omega
    go_wp2_with fail
    refine (Qcj x1 xc1 xm.length (z + 1) (by omega) (by omega) (by omega) _ (Qne Hat.out.1)).mono ?_
    rintro e w1 ⟨rfl, g1⟩
    obtain ⟨k1, m1⟩ := Qax g1
    have q1 := Nat.lt_of_lt_of_le hb1 g1.size
    go_wp2_with fail
    refine (Qcj x2 xc2 xb.length (z + 1 + (xm.length : Int)) (by omega) (by omega) (by omega) _ (Qne (Hat.out.2.1.below g1))).mono ?_
    rintro e w2 ⟨rfl, g2⟩
    obtain ⟨k2, m2⟩ := Qax g2
    have q2 := Nat.lt_of_lt_of_le q1 g2.size
    go_wp2_with fail
    refine (Qcj x3 xc3 xo.length (z + 1 + (xm.length : Int) + (xb.length : Int)) (by omega) (by omega) (by omega) _ (Qne ((Hat.out.2.2.below g1).below g2))).mono ?_
    rintro e w3 ⟨rfl, g3⟩
    go_wp2
    have hz' := hz.out
    refine ⟨⟨n + 1, z + 1 + (xm.length : Int) + (xb.length : Int) + (xo.length : Int), by go_num, rfl, by omega, by omega, by omega, ?_, via0 g3 (via0 g2 (via0 g1 hbl))⟩, by simp [intOf]; omega⟩
    show _ = _; rw [Hsn.out, hz']; simp only [cG]; omega
  . obtain rfl : n = l.length := by omega
    go_wp2
    go_ret
    have e := hz.out
    rw [Qcr cG l _ (Nat.le_refl _)] at e
    subst e
    exact ⟨rfl, hbl⟩
end Go.Proofs.YtenhcjkkpnlbeaaGreatDoor.Gen
