/-
  spec.GroupMark with the group's own Gen: what it answers. No condition but that there are at most 1048576 members.
-/
import Derived.Test.YtlniljigeemnoaaGreatGrpJn
set_option linter.unusedVariables false
set_option linter.unusedSimpArgs false
set_option maxRecDepth 100000
set_option maxHeartbeats 8000000
namespace Go.Proofs.YtlniljigeemnoaaGreat.Gen
open ChangeShapes WideShapes ChangeAt RowKit Joins Deep Base
theorem gp_third {w : World} {a1 a2 a3 : Option Addr} {m b o : List Int} {F : List Nat} (h : Gp w a1 a2 a3 m b o F) {n : Nat} (hn : n < o.length) :
 ∃ b3 o3, a3 = some ⟨b3, o3, none⟩ /\ b3 ∈ F /\ b3 < w.heap.size /\ w.frozen? ⟨b3, o3 + n, none⟩ = false /\ (∃ v, w.cell? ⟨b3, o3 + n, none⟩ = some v) /\ ∀ off : Int, Gp (w.setCell ⟨b3, o3 + n, none⟩ (.int .i64 off)) a1 a2 a3 m b (o.set n off) F := by
 obtain ⟨F1, F2, F3, rfl, s1, s2, s3, hnd⟩ := h
 rcases s3 with ⟨h0, _⟩ | ⟨b3, o3, rfl, rfl, hb3, hi3, ht3⟩
 . subst h0; simp at hn
 . have hth := there_at (f := 0) (k := 1) ht3 hn (by omega)
   rw [Nat.mul_one, Nat.add_zero] at hth
   refine ⟨b3, o3, rfl, by simp, hb3, hth.2, hth.1, fun off => ?_⟩
   have k : Off [b3] w (w.setCell ⟨b3, o3 + n, none⟩ (.int .i64 off)) := Off.of_only ((Only.refl b3 w).set _ _)
   have d := List.nodup_append.1 hnd
   have hI := hi3.set1 n hn off 0 (by show 0 < 1; omega) (.int .i64 off) rfl
   have eA : o3 + n * Cel.k Int + 0 = o3 + n := by show o3 + n * 1 + 0 = _; omega
   rw [eA] at hI
   refine ⟨F1, F2, [b3], rfl, s1.off k ?_, s2.off k ?_, .inr ⟨b3, o3, rfl, rfl, by simpa using hb3, hI, ?_⟩, hnd⟩
   . intro x hx hm
     simp at hm
     subst hm
     simp only [List.nodup_append] at hnd
     exact hnd.2.2 x hx x (by simp) rfl
   . intro x hx hm
     simp at hm
     subst hm
     simp only [List.nodup_append] at hnd
     exact hnd.2.1.2.2 x hx x (by simp) rfl
   . rw [List.length_set]
     exact Qg1 ht3 _ _ _
theorem Qg4 (gen who row off : Int) (A B C : Option Addr) (ca cb cc : Nat) (m b o : List Int) (hm : m.length <= 1048576) (hb : b.length <= 1048576) (ho : o.length <= 1048576) (hmi : ∀ x ∈ m, I64 x) (w : World) (hA : At w A m) (hB : At w B b) (hC : At w C o) :
 Calls Tryz.prog 99 #[.agg (Qak gen A m.length ca B b.length cb C o.length cc), .int .i64 who, .int .i64 gen, .int .i64 row, .int .i64 off] w fun e w' => ∃ v, e = .returned (.tuple #[v, .bool (Qeh m o who row off)]) /\ Qgz w w' (.returned v) gen m b (Qgn m o who row off) := by
 have HA := hidP hA
 have HB := hidP hB
 have HC := hidP hC
 have Hmi := hidP hmi
 clear hA hB hC hmi
 have I0 : Wi w ((w.alloc (.cells (Qak gen A m.length ca B b.length cb C o.length cc) 128)).alloc (.cells Qb0 128)) gen (.slice A m.length ca) (.slice B b.length cb) (.slice C o.length cc) := ⟨by repeat (first | exact Below.refl _ _ | assumption | refine via0 (by assumption) ?_ | refine Below.drew ?_ | refine Qaf ?_ _), (Blk.new w 128 (Qak gen A m.length ca B b.length cb C o.length cc)).alloc _, by have := Blk.new (w.alloc (.cells (Qak gen A m.length ca B b.length cb C o.length cc) 128)) 128 Qb0; rw [World.size_alloc] at this; exact this⟩
 have hO : Hid (Qgn m o who row off = if Qeh m o who row off then o.set row.toNat off else o) := rfl
 have hK : Hid (Qeh m o who row off = (inB row 0 ((o.length : Int) - 1) && (ownF m row == who) && decide (o.getD row.toNat 0 <= off))) := rfl
 have HOw : Hid (∀ W : World, Below w.heap.size w W -> Calls Tryz.prog 106 #[.agg (Qak gen A m.length ca B b.length cb C o.length cc), .int .i64 row] W fun e w' => e = .returned (.int .i64 (ownF m row)) /\ Below W.heap.size W w') := fun W g => Qgj gen row A B C ca cb cc m b o hm Hmi.out W (HA.out.below g) (HB.out.below g) (HC.out.below g)
 generalize Qgn m o who row off = O at hO ⊢
 generalize Qeh m o who row off = ok at hO hK ⊢
 generalize ownF m row = ow at hK HOw
 have hIn : Hid (inB row 0 ((o.length : Int) - 1) = true -> 0 <= row /\ row < (o.length : Int)) := fun h => by simp only [inB, Bool.and_eq_true, decide_eq_true_eq] at h; omega
 go_enter Tryz.func99, Tryz.ntmps99
 go_wp2_with fail
 generalize (w.alloc (.cells (Qak gen A m.length ca B b.length cb C o.length cc) 128)).alloc (.cells Qb0 128) = X0 at I0 ⊢
 refine (Qct gen A B C ca cb cc m b o hm hb ho _ (HA.out.below I0.bl) (HB.out.below I0.bl) (HC.out.below I0.bl)).mono ?_
 rintro e w2 ⟨a1, a2, a3, c1, c2, c3, F, rfl, g2, hG, hF, k1, k2⟩
 have zr := Nat.lt_of_lt_of_le I0.r.lt g2.size
 have zb := I0.bl.size
 have z1 := I0.r.lt
 have I2 := (I0.below g2).alloc (.cells (Qak gen a1 m.length c1 a2 b.length c2 a3 o.length c3) 128)
 have P2 := Blk.new w2 128 (Qak gen a1 m.length c1 a2 b.length c2 a3 o.length c3)
 have G2 := hidP (hG.alloc (.cells (Qak gen a1 m.length c1 a2 b.length c2 a3 o.length c3) 128))
 have lF := hidP hG.lt
 have HF := hidP hF
 obtain ⟨u0, u1, u2, u3⟩ := I2.s4
 clear hG hF g2 k1 k2 I0
 go_wp2_with fail
 generalize w2.alloc (.cells (Qak gen a1 m.length c1 a2 b.length c2 a3 o.length c3) 128) = X2 at I2 P2 G2 u0 u1 u2 u3 ⊢
 generalize w2.heap.size = P at P2 lF zr ⊢
 refine (Qbp _ _ _ _).mono ?_
 rintro e w3 ⟨rfl, rfl⟩
 generalize inB row 0 ((o.length : Int) - 1) = bI at hK hIn ⊢
 have hne1 : P ≠ w.heap.size + 1 := by omega
 have hne2 : w.heap.size + 1 ≠ P := by omega
 cases bI
 . have eok : ok = false := by rw [hK.out]; rfl
   subst eok
   have eO : O = o := by rw [hO.out]; rfl
   subst eO
   obtain ⟨x0, x1, x2, x3⟩ := P2.row4
   obtain ⟨r0, r1, r2, r3⟩ := I2.r.row4
   have f0 := I2.r.thaw 0
   have f1 := I2.r.thaw 1
   have f2 := I2.r.thaw 2
   have f3 := I2.r.thaw 3
   obtain ⟨s0, s1, s2, s3⟩ := Qbz I2.r (.int .i64 gen) (.slice a1 m.length c1) (.slice a2 b.length c2) (.slice a3 O.length c3)
   have T := hidP (Qb9 (gen' := gen) (c1 := c1) (c2 := c2) (c3 := c3) I2 G2.out (fun x hx => by have := HF.out x hx; omega))
   clear P2 I2 G2
   go_wp2
   exact bodyPost_ret (v := .tuple #[.agg (Qak gen a1 m.length c1 a2 b.length c2 a3 O.length c3), .bool false]) (by simp [results, Tryz.results99, go_sem, s0, s1, s2, s3]) rfl ⟨_, rfl, T.out⟩
 . obtain ⟨i0, i1⟩ := hIn.out rfl
   clear hIn
   go_wp2_with fail
   refine (HOw.out _ I2.bl).mono ?_
   rintro e w4 ⟨rfl, g4⟩
   have lP := P2.lt
   replace P2 := P2.below g4 P2.lt
   replace I2 := I2.below g4
   replace G2 := hidP (G2.out.below g4)
   clear g4 u0 u1 u2 u3
   obtain ⟨u0, u1, u2, u3⟩ := I2.s4
   by_cases hw : ow = who
   . have eq1 : (ow != who) = false := by simp [hw]
     obtain ⟨n, rfl⟩ : ∃ n : Nat, row = (n : Int) := ⟨row.toNat, by omega⟩
     have hlt : n < o.length := by omega
     have hgd : Hid (o.getD (n : Int).toNat 0 = o[n]) := by show _ = _; simp [hlt]
     obtain ⟨b', o', rfl, hbs, hin⟩ : ∃ b o', C = some ⟨b, o', none⟩ /\ b < w.heap.size /\ In w b o' o := by
      rcases HC.out with h | h
      . subst h; simp at hlt
      . exact h
     have cO := (hin.below hbs I2.bl).getInt n hlt
     by_cases hoff : off < o[n]
     . have eok : ok = false := by
        rw [hK.out, hgd.out]
        have : decide (o[n] <= off) = false := decide_eq_false (by omega)
        rw [this, Bool.and_false]
       subst eok
       have eO : O = o := by rw [hO.out]; rfl
       subst eO
       obtain ⟨x0, x1, x2, x3⟩ := P2.row4
       obtain ⟨r0, r1, r2, r3⟩ := I2.r.row4
       have f0 := I2.r.thaw 0
       have f1 := I2.r.thaw 1
       have f2 := I2.r.thaw 2
       have f3 := I2.r.thaw 3
       obtain ⟨s0, s1, s2, s3⟩ := Qbz I2.r (.int .i64 gen) (.slice a1 m.length c1) (.slice a2 b.length c2) (.slice a3 O.length c3)
       have T := hidP (Qb9 (gen' := gen) (c1 := c1) (c2 := c2) (c3 := c3) I2 G2.out (fun x hx => by have := HF.out x hx; omega))
       clear P2 I2 G2
       go_wp2
       exact bodyPost_ret (v := .tuple #[.agg (Qak gen a1 m.length c1 a2 b.length c2 a3 O.length c3), .bool false]) (by simp [results, Tryz.results99, go_sem, s0, s1, s2, s3]) rfl ⟨_, rfl, T.out⟩
     . have eok : ok = true := by
        rw [hK.out, hgd.out]
        have : decide (o[n] <= off) = true := decide_eq_true (by omega)
        rw [this]
        simp [hw]
       subst eok
       have eO : Hid (O = o.set n off) := by show O = _; rw [hO.out]; simp
       go_upto_region 4 with fail
       clear cO u0 u1 u2 u3
       obtain ⟨b3, o3, e3, hb3, lb3, fz3, ⟨v3, hv3⟩, hT3⟩ := gp_third G2.out hlt
       subst e3
       have l3 := HF.out b3 hb3
       have l3' := lF.out b3 hb3
       have hnp : P ≠ b3 := by omega
       have hnr : w.heap.size + 1 ≠ b3 := by omega
       have hng : w.heap.size ≠ b3 := by omega
       have hnp' : b3 ≠ P := by omega
       have hnr' : b3 ≠ w.heap.size + 1 := by omega
       have hng' : b3 ≠ w.heap.size := by omega
       have hPg : P ≠ w.heap.size := by omega
       have k4 : Off [b3] w4 (w4.setCell ⟨b3, o3 + n, none⟩ (.int .i64 off)) := Off.of_only ((Only.refl b3 w4).set _ _)
       have I3 := I2.off k4 (by omega)
       have P3 := P2.off k4 (by simpa using hnp)
       obtain ⟨x0, x1, x2, x3⟩ := P2.row4
       obtain ⟨y0, y1, y2, y3⟩ := P3.row4
       obtain ⟨r0, r1, r2, r3⟩ := I3.r.row4
       have f0 := I3.r.thaw 0
       have f1 := I3.r.thaw 1
       have f2 := I3.r.thaw 2
       have f3 := I3.r.thaw 3
       have hi0 : (0 : Int) <= (n : Int) := by omega
       have hi1 : (n : Int) < (o.length : Int) := by omega
       obtain ⟨s0, s1, s2, s3⟩ := Qbz I3.r (.int .i64 gen) (.slice a1 m.length c1) (.slice a2 b.length c2) (.slice (some ⟨b3, o3, none⟩) o.length c3)
       have hle : (o.set n off).length = o.length := List.length_set
       have T' := Qb9 (gen' := gen) (c1 := c1) (c2 := c2) (c3 := c3) I3 (hT3 off) (fun x hx => by have := HF.out x hx; omega)
       rw [hle] at T'
       have T := hidP T'
       clear P2 P3 I2 I3 G2 k4 hT3 T' hle
       go_wp2
       exact bodyPost_ret (v := .tuple #[.agg (Qak gen a1 m.length c1 a2 b.length c2 (some ⟨b3, o3, none⟩) o.length c3), .bool true]) (by simp [results, Tryz.results99, go_sem, s0, s1, s2, s3]) rfl ⟨_, rfl, by rw [eO.out]; exact T.out⟩
   . have eq1 : (ow != who) = true := by simp [hw]
     have eok : ok = false := by
      rw [hK.out]
      have : (ow == who) = false := by simpa using hw
      rw [this]
      rfl
     subst eok
     have eO : O = o := by rw [hO.out]; rfl
     subst eO
     obtain ⟨x0, x1, x2, x3⟩ := P2.row4
     obtain ⟨r0, r1, r2, r3⟩ := I2.r.row4
     have f0 := I2.r.thaw 0
     have f1 := I2.r.thaw 1
     have f2 := I2.r.thaw 2
     have f3 := I2.r.thaw 3
     obtain ⟨s0, s1, s2, s3⟩ := Qbz I2.r (.int .i64 gen) (.slice a1 m.length c1) (.slice a2 b.length c2) (.slice a3 O.length c3)
     have T := hidP (Qb9 (gen' := gen) (c1 := c1) (c2 := c2) (c3 := c3) I2 G2.out (fun x hx => by have := HF.out x hx; omega))
     clear P2 I2 G2
     go_wp2
     exact bodyPost_ret (v := .tuple #[.agg (Qak gen a1 m.length c1 a2 b.length c2 a3 O.length c3), .bool false]) (by simp [results, Tryz.results99, go_sem, s0, s1, s2, s3]) rfl ⟨_, rfl, T.out⟩
def Qf4 (m : List Int) (who : Int) : Nat := (m.takeWhile fun x => decide (x < who)).length
def Qcx (n : Nat) (x : Int) (l : List Int) : List Int := l.take n ++ x :: l.drop n
def Qe8 (gen : Int) (m : List Int) (who : Int) : Int := match mAt m who with | none => upF gen | some _ => gen
def Qdv (m : List Int) (who : Int) : List Int := match mAt m who with | none => Qcx (Qf4 m who) who m | some _ => m
def Qe9 (m b : List Int) (who time : Int) : List Int := match mAt m who with | none => Qcx (Qf4 m who) time b | some i => b.set i time
theorem joinN_is : ∀ (m : List Int) (who : Int) (n : Nat), n <= m.length -> (∀ x ∈ m.take n, x < who) -> (∀ h : n < m.length, ¬ m[n] < who) -> Qf4 m who = n
 | [], who, n, h, _, _ => by simp at h; subst h; rfl
 | x :: m, who, 0, _, _, h => by
  have := h (by simp)
  simp at this
  unfold Qf4
  rw [List.takeWhile_cons, if_neg (by simp; omega)]
  rfl
 | x :: m, who, n + 1, hn, h1, h2 => by
  have hx : x < who := h1 x (by simp)
  have := joinN_is m who n (by simpa using hn) (fun y hy => h1 y (by simp [hy])) (fun h => by have := h2 (by simpa using h); simpa using this)
  unfold Qf4 at this ⊢
  rw [List.takeWhile_cons, if_pos (by simpa using hx), List.length_cons, this]
def cutI (A : Option Addr) (c i : Nat) : Option Addr := if c = i then A else A.map (·.add (i * 1))
theorem Qgw (A : Option Addr) (n c j : Nat) (h2 : j <= c) (hc : c <= 9223372036854775807) (w : World) :
 (Instr.slice 40 (.slice A n c) none (some (.int .i64 (j : Int))) none).run Tryz.prog w = .ok (.slice A j c) w := by
 have e : A.map (fun x => x.add 0) = A := by cases A<;>rfl
 simp [Instr.slice, run_underlying Tryz.underlying40, Instr.sliceBounds, Instr.sliceBound, asIntOf, h2, e]
theorem Qep (A : Option Addr) (n c i : Nat) (h1 : i <= n) (h2 : n <= c) (hc : c <= 9223372036854775807) (w : World) :
 (Instr.slice 40 (.slice A n c) (some (.int .i64 (i : Int))) none none).run Tryz.prog w = .ok (.slice (cutI A c i) (n - i) (c - i)) w := by
 have hz : (sizeOf 3).run Tryz.prog w = .ok 1 w := Tryz.sizeOf3 w
 by_cases h : c = i
 . simp [Instr.slice, run_underlying Tryz.underlying40, Instr.sliceBounds, Instr.sliceBound, asIntOf, hz, cutI, h, h1, h2]
 . simp [Instr.slice, run_underlying Tryz.underlying40, Instr.sliceBounds, Instr.sliceBound, asIntOf, hz, cutI, h, h1, h2]
theorem Qgy {w : World} {A : Option Addr} {l : List Int} (h : At w A l) {c : Nat} (i : Nat) (hc : l.length <= c) : At w (cutI A c i) (l.drop i) := by
 by_cases e : c = i
 . exact .inl (List.drop_eq_nil_of_le (by omega))
 . rcases h with rfl | ⟨b, o, rfl, hb, hi⟩
   . exact .inl (by simp)
   . have e1 : cutI (some ⟨b, o, none⟩) c i = some ⟨b, o + i * 1, none⟩ := by unfold cutI; rw [if_neg e, Option.map_some, Addr.add_mid]
     rw [e1]
     exact .inr ⟨b, o + i * 1, rfl, hb, hi.drop i⟩
theorem newIntL (W : World) (x : Int) : At (W.alloc (.cells #[.int .i64 x] 3)) (some ⟨W.heap.size, 0, none⟩) [x] := by
 refine .inr ⟨_, _, rfl, by simp, ?_⟩
 intro j v hv
 have e : (flat [x]) = (#[Value.int .i64 x] : Array Value).toList := rfl
 rw [e] at hv
 exact (Blk.new W 3 #[.int .i64 x]).cell (i := 0 + j) (by simpa using hv)
theorem Qff (W : World) (A D : Option Addr) (c d k1 k2 : Nat) (l1 l2 : List Int) (x : Int) (e1 : k1 = l1.length) (e2 : k2 = l2.length) (h1 : l1.length <= 1048576) (h2 : l2.length <= 1048576) (hA : At W A l1) (hD : At W D l2) :
 ∃ x1 y1 w1 x2 y2 w2 x3 y3 w3, (Builtin.append_ #[40, 40] 40 #[.slice (some ⟨W.heap.size, 0, none⟩) 0 0, .slice A k1 c]).run Tryz.prog (W.alloc (.cells #[] 3)) = .ok (.slice x1 k1 y1) w1 /\
  (Builtin.append_ #[40, 40] 40 #[.slice x1 k1 y1, .slice (some ⟨w1.heap.size, 0, none⟩) 1 1]).run Tryz.prog (w1.alloc (.cells #[.int .i64 x] 3)) = .ok (.slice x2 (k1 + 1) y2) w2 /\
  (Builtin.append_ #[40, 40] 40 #[.slice x2 (k1 + 1) y2, .slice D k2 d]).run Tryz.prog w2 = .ok (.slice x3 (k1 + 1 + k2) y3) w3 /\
  Below W.heap.size W w1 /\ Below W.heap.size W w2 /\ Below W.heap.size W w3 /\ w3.ownsRow W.heap.size 3 1 (.slice x3 (k1 + 1 + k2) y3) (k1 + 1 + k2) (flat (l1 ++ x :: l2)) := by
 subst e1 e2
 have b0 : Below W.heap.size W (W.alloc (.cells #[] 3)) := Qaf (Below.refl _ _) _
 have o0 : (W.alloc (.cells #[] 3)).ownsRow W.heap.size 3 1 (.slice (some ⟨W.heap.size, 0, none⟩) 0 0) ([] : List Int).length (flat ([] : List Int)) := World.ownsRow_made W #[] 0 (Nat.le_refl _) (by simp [maxLen]) rfl
 obtain ⟨v, w1, hr, ho, hg, hat⟩ := Qbd (P := Tryz.prog) Tryz.underlying40 Qdb rfl (by decide) (by decide) W.heap.size _ ([] : List Int) l1 A c _ b0.size o0 (hA.below b0) (by simp; omega)
 simp only [List.length_nil, Nat.zero_add, List.nil_append] at ho
 obtain ⟨x1, y1, rfl, _⟩ := Qao ho
 have b1 : Below W.heap.size W w1 := b0.grown hg b0.size (fun k e => (o0.lt k e).1)
 have b1' : Below W.heap.size W (w1.alloc (.cells #[.int .i64 x] 3)) := b1.alloc b1.size _
 have hx : At (w1.alloc (.cells #[.int .i64 x] 3)) (some ⟨w1.heap.size, 0, none⟩) [x] := newIntL w1 x
 obtain ⟨v, w2, hr2, ho2, hg2, _⟩ := Qbd (P := Tryz.prog) Tryz.underlying40 Qdb rfl (by decide) (by decide) W.heap.size _ l1 [x] (some ⟨w1.heap.size, 0, none⟩) 1 (w1.alloc (.cells #[.int .i64 x] 3)) b1'.size (Qav ho _) hx (by simp; omega)
 simp only [List.length_cons, List.length_nil, Nat.zero_add] at hr2 ho2
 obtain ⟨x2, y2, rfl, _⟩ := Qao ho2
 have b2 : Below W.heap.size W w2 := b1'.grown hg2 b1'.size (fun k e => (ho.lt k e).1)
 have ho2' : w2.ownsRow W.heap.size 3 1 (.slice x2 (l1.length + 1) y2) (l1 ++ [x]).length (flat (l1 ++ [x])) := by rw [List.length_append]; exact ho2
 obtain ⟨v, w3, hr3, ho3, hg3, _⟩ := Qbd (P := Tryz.prog) Tryz.underlying40 Qdb rfl (by decide) (by decide) W.heap.size _ (l1 ++ [x]) l2 D d w2 b2.size ho2' (hD.below b2) (by simp; omega)
 have b3 : Below W.heap.size W w3 := b2.grown hg3 b2.size (fun k e => (ho2'.lt k e).1)
 have e3 : (l1 ++ [x]).length + l2.length = l1.length + 1 + l2.length := by simp
 rw [e3, List.append_assoc] at ho3
 obtain ⟨x3, y3, rfl, _⟩ := Qao ho3
 exact ⟨x1, y1, w1, x2, y2, w2, x3, y3, w3, hr, hr2, hr3, b1, b2, b3, ho3⟩
theorem gp_second {w : World} {a1 a2 a3 : Option Addr} {m b o : List Int} {F : List Nat} (h : Gp w a1 a2 a3 m b o F) {n : Nat} (hn : n < b.length) :
 ∃ b3 o3, a2 = some ⟨b3, o3, none⟩ /\ b3 ∈ F /\ b3 < w.heap.size /\ w.frozen? ⟨b3, o3 + n, none⟩ = false /\ (∃ v, w.cell? ⟨b3, o3 + n, none⟩ = some v) /\ ∀ off : Int, Gp (w.setCell ⟨b3, o3 + n, none⟩ (.int .i64 off)) a1 a2 a3 m (b.set n off) o F := by
 obtain ⟨F1, F2, F3, rfl, s1, s2, s3, hnd⟩ := h
 have hnd' : (F1 ++ (F3 ++ F2)).Nodup := by
  refine (List.Perm.nodup_iff ?_).1 hnd
  exact List.Perm.append_left _ (List.perm_append_comm)
 obtain ⟨b3, o3, e1, e2, e3, e4, e5, e6⟩ := gp_third (w := w) (a1 := a1) (a2 := a3) (a3 := a2) (m := m) (b := o) (o := b) (F := F1 ++ (F3 ++ F2)) ⟨F1, F3, F2, rfl, s1, s3, s2, hnd'⟩ hn
 refine ⟨b3, o3, e1, by simp at e2 ⊢; rcases e2 with h | h | h<;>simp [h], e3, e4, e5, fun off => ?_⟩
 obtain ⟨G1, G3, G2, eG, t1, t3, t2, _⟩ := e6 off
 rcases s2 with ⟨h0, _⟩ | ⟨b4, o4, e7, rfl, hb4, hi4, ht4⟩
 . subst h0; simp at hn
 . have e8 : b4 = b3 /\ o4 = o3 := by rw [e1] at e7; cases e7; exact ⟨rfl, rfl⟩
   obtain ⟨rfl, rfl⟩ := e8
   have k : Off [b4] w (w.setCell ⟨b4, o4 + n, none⟩ (.int .i64 off)) := Off.of_only ((Only.refl b4 w).set _ _)
   simp only [List.nodup_append] at hnd
   refine ⟨F1, [b4], F3, rfl, s1.off k ?_, ?_, s3.off k ?_, by simp only [List.nodup_append]; exact hnd⟩
   . intro x hx hm
     simp at hm; subst hm
     exact hnd.2.2 x hx x (by simp) rfl
   . rcases t2 with ⟨h0, _⟩ | ⟨b5, o5, e9, _, hb5, hi5, ht5⟩
     . have := congrArg List.length h0; rw [List.length_set] at this; simp at this; subst this; simp at hn
     . rw [e1] at e9; cases e9
       exact .inr ⟨_, _, e1, rfl, hb5, hi5, ht5⟩
   . intro x hx hm
     simp at hm; subst hm
     exact hnd.2.1.2.2 x (by simp) x hx rfl
theorem Qg5 (gen who time : Int) (hg : I64 gen) (hw : 0 <= who /\ who <= 3) (A B C : Option Addr) (ca cb cc : Nat) (m b o : List Int) (hm : m.length <= 1000000) (hbm : b.length = m.length) (ho : o.length <= 1048576) (hca : m.length <= ca /\ ca <= 9223372036854775807) (hcb : b.length <= cb /\ cb <= 9223372036854775807) (w : World) (hA : At w A m) (hB : At w B b) (hC : At w C o) :
 Calls Tryz.prog 97 #[.agg (Qak gen A m.length ca B b.length cb C o.length cc), .int .i64 who, .int .i64 time] w fun e w' => Qgz w w' e (Qe8 gen m who) (Qdv m who) (Qe9 m b who time) o := by
 have HA := hidP hA
 have HBM := hidP hbm
 have hb' : b.length <= 1000000 := by omega
 clear hbm
 have HB := hidP hB
 have HC := hidP hC
 clear hA hB hC
 have I0 : Wi w ((w.alloc (.cells (Qak gen A m.length ca B b.length cb C o.length cc) 128)).alloc (.cells Qb0 128)) gen (.slice A m.length ca) (.slice B b.length cb) (.slice C o.length cc) := ⟨by repeat (first | exact Below.refl _ _ | assumption | refine via0 (by assumption) ?_ | refine Below.drew ?_ | refine Qaf ?_ _), (Blk.new w 128 (Qak gen A m.length ca B b.length cb C o.length cc)).alloc _, by have := Blk.new (w.alloc (.cells (Qak gen A m.length ca B b.length cb C o.length cc) 128)) 128 Qb0; rw [World.size_alloc] at this; exact this⟩
 have hin : inB who 0 3 = true := by simp [inB]; exact hw
 have hJM : Hid (Qdv m who = match mAt m who with | none => Qcx (Qf4 m who) who m | some _ => m) := rfl
 have hJB : Hid (Qe9 m b who time = match mAt m who with | none => Qcx (Qf4 m who) time b | some i => b.set i time) := rfl
 have hJG : Hid (Qe8 gen m who = match mAt m who with | none => upF gen | some _ => gen) := rfl
 have hZ : Hid (mAtZ m who = match mAt m who with | none => -1 | some i => (i : Int)) := rfl
 have hL : Hid (∀ i, mAt m who = some i -> i < m.length) := fun i h => mAt_lt h
 have HCt : Hid (∀ W : World, Below w.heap.size w W -> Calls Tryz.prog 105 #[.agg (Qak gen A m.length ca B b.length cb C o.length cc), .int .i64 who] W fun e w' => e = .returned (.int .i64 (mAtZ m who)) /\ Below W.heap.size W w') := fun W g => l5At_any gen who A B C ca cb cc m b o (by omega) W (HA.out.below g)
 generalize Qdv m who = JM at hJM ⊢
 generalize Qe9 m b who time = JB at hJB ⊢
 generalize Qe8 gen m who = JG at hJG ⊢
 generalize mAtZ m who = z at hZ HCt
 generalize mAt m who = mo at hZ hL hJM hJB hJG
 obtain ⟨ca1, ca2⟩ := hca
 obtain ⟨cb1, cb2⟩ := hcb
 go_enter Tryz.func97, Tryz.ntmps97
 go_wp2_with fail
 generalize (w.alloc (.cells (Qak gen A m.length ca B b.length cb C o.length cc) 128)).alloc (.cells Qb0 128) = X0 at I0 ⊢
 refine (Qct gen A B C ca cb cc m b o (by omega) (by omega) ho _ (HA.out.below I0.bl) (HB.out.below I0.bl) (HC.out.below I0.bl)).mono ?_
 rintro e w2 ⟨a1, a2, a3, c1, c2, c3, F, rfl, g2, hG, hF, k1, k2⟩
 have zr := I0.r.lt
 have zr2 := Nat.lt_of_lt_of_le zr g2.size
 have I2 := (I0.below g2).alloc (.cells (Qak gen a1 m.length c1 a2 b.length c2 a3 o.length c3) 128)
 have P2 := Blk.new w2 128 (Qak gen a1 m.length c1 a2 b.length c2 a3 o.length c3)
 have G2 := hG.alloc (.cells (Qak gen a1 m.length c1 a2 b.length c2 a3 o.length c3) 128)
 have HF : Hid (∀ x ∈ F, w.heap.size + 1 < x /\ x ≠ w2.heap.size) := fun x hx => by have := hF x hx; have := hG.lt x hx; exact ⟨by omega, by omega⟩
 obtain ⟨k11, k12⟩ := k1
 obtain ⟨k21, k22⟩ := k2
 clear hG hF g2 I0 zr
 obtain ⟨u0, u1, u2, u3⟩ := I2.s4
 go_wp2_with fail
 generalize w2.alloc (.cells (Qak gen a1 m.length c1 a2 b.length c2 a3 o.length c3) 128) = X2 at I2 P2 G2 u0 u1 u2 u3 ⊢
 generalize w2.heap.size = P at P2 HF zr2 ⊢
 refine (Qbp _ _ _ _).mono ?_
 rintro e w3 ⟨rfl, rfl⟩
 rw [hin]
 go_wp2_with fail
 refine (HCt.out _ I2.bl).mono ?_
 rintro e w4 ⟨rfl, g4⟩
 have I4 := I2.below g4
 have P4 := P2.below g4 P2.lt
 have G4 := hidP (G2.below g4)
 clear g4 u0 u1 u2 u3 I2 P2 G2
 have hne1 : P ≠ w.heap.size + 1 := by omega
 have hne2 : w.heap.size + 1 ≠ P := by omega
 have hne3 : P ≠ w.heap.size := by omega
 have hne4 : w.heap.size ≠ P := by omega
 cases mo with
 | some i =>
  have ez : z = (i : Int) := hZ.out
  have eM : JM = m := hJM.out
  have eB : Hid (JB = b.set i time) := hJB.out
  have eG : JG = gen := hJG.out
  have hi := hL.out i rfl
  have hib : (i : Int) < (b.length : Int) := by have := HBM.out; omega
  have hi0 : (0 : Int) <= (i : Int) := by omega
  have hlt : i < b.length := by have := HBM.out; omega
  subst ez eM eG
  obtain ⟨p0, p1, p2, p3⟩ := P4.row4
  go_upto_region 7 with fail
  obtain ⟨b3, o3, e3, hb3, lb3, fz3, ⟨v3, hv3⟩, hT3⟩ := gp_second G4.out hlt
  subst e3
  obtain ⟨l3, l3'⟩ := HF.out b3 hb3
  have hnp : P ≠ b3 := fun e => l3' e.symm
  have hnr : w.heap.size + 1 ≠ b3 := by omega
  have hnr' : b3 ≠ w.heap.size + 1 := by omega
  have k5 : Off [b3] w4 (w4.setCell ⟨b3, o3 + i, none⟩ (.int .i64 time)) := Off.of_only ((Only.refl b3 w4).set _ _)
  have I5 := I4.off k5 l3
  have P5 := P4.off k5 (by simpa using hnp)
  obtain ⟨y0, y1, y2, y3⟩ := P5.row4
  obtain ⟨r0, r1, r2, r3⟩ := I5.r.row4
  have f0 := I5.r.thaw 0
  have f1 := I5.r.thaw 1
  have f2 := I5.r.thaw 2
  have f3 := I5.r.thaw 3
  obtain ⟨s0, s1, s2, s3⟩ := Qbz I5.r (.int .i64 JG) (.slice a1 JM.length c1) (.slice (some ⟨b3, o3, none⟩) b.length c2) (.slice a3 o.length c3)
  have hle : (b.set i time).length = b.length := List.length_set
  have T' := Qb9 (gen' := JG) (c1 := c1) (c2 := c2) (c3 := c3) I5 (hT3 time) (fun x hx => by have := HF.out x hx; omega)
  rw [hle] at T'
  have T := hidP T'
  clear P4 P5 I4 I5 G4 k5 hT3 T' hle lb3
  go_wp2
  exact bodyPost_ret (v := .agg (Qak JG a1 JM.length c1 (some ⟨b3, o3, none⟩) b.length c2 a3 o.length c3)) (by simp [results, Tryz.results97, go_sem, s0, s1, s2, s3]) rfl (by rw [eB.out]; exact T.out)
 | none =>
  have ez : z = -1 := hZ.out
  have eM : Hid (JM = Qcx (Qf4 m who) who m) := hJM.out
  have eB : Hid (JB = Qcx (Qf4 m who) time b) := hJB.out
  have eG : Hid (JG = upF gen) := hJG.out
  subst ez
  obtain ⟨u0, u1, u2, u3⟩ := I4.s4
  go_wp2
  go_loopw [8] (fun i W => ∃ n : Nat, i = .int .i64 (n : Int) /\ n <= m.length /\ Hid (W = w4) /\ Hid (∀ x ∈ m.take n, x < who)) (fun i _ => m.length - (intOf i).toNat)
  case atStart => exact ⟨0, rfl, by omega, hidP rfl, by show ∀ x ∈ _, _; simp⟩
  case round =>
   obtain ⟨n, rfl, hn, hWr, hlow⟩ := hrel
   have hWr' := hWr.out
   subst hWr'
   by_cases hgo : ∃ h : n < m.length, m[n] < who
   . obtain ⟨hlt, hlw⟩ := hgo
     obtain ⟨b', o', rfl, hbs, hinA⟩ : ∃ b o, A = some ⟨b, o, none⟩ /\ b < w.heap.size /\ In w b o m := by
      rcases HA.out with h | h
      . subst h; simp at hlt
      . exact h
     have cA := (hinA.below hbs I4.bl).getInt n hlt
     have hi0 : (0 : Int) <= (n : Int) := by omega
     have hi1 : (n : Int) < (m.length : Int) := by omega
     have hi2 : (n : Int) < (b.length : Int) := by have := HBM.out; omega
     go_wp2
     refine ⟨⟨n + 1, by go_num, by omega, (by first | exact hidP rfl | exact hidP trivial), ?_⟩, by simp [intOf]; omega⟩
     show ∀ x ∈ _, _
     intro x hx
     rw [List.take_succ_eq_append_getElem hlt, List.mem_append] at hx
     rcases hx with hx | hx
     . exact hlow.out x hx
     . simp at hx; subst hx; exact hlw
   . have hnb : n <= b.length := by have := HBM.out; omega
     have hN : Hid (Qf4 m who = n) := joinN_is m who n hn hlow.out (fun h h2 => hgo ⟨h, h2⟩)
     have hex : n = m.length ∨ ∃ h : n < m.length, ¬ m[n] < who := by
      by_cases h : n < m.length
      . exact .inr ⟨h, fun h2 => hgo ⟨h, h2⟩⟩
      . exact .inl (by omega)
     clear hgo
     rcases hex with hx | ⟨hlt, hlw⟩
     . have hi1 : ¬ (n : Int) < (m.length : Int) := by omega
       clear hx
       go_upto_region 12 with fail
       clear hi1
       obtain ⟨x1, y1, wa, x2, y2, wb, x3, y3, wc, hr1, hr2, hr3, b1, b2, b3, ow⟩ := Qff wr A (cutI A ca n) ca (ca - n) n (m.length - n) (m.take n) (m.drop n) who (by simp; omega) (by simp) (by simp; omega) (by simp; omega) (Qd6 (HA.out.below I4.bl) n) (Qgy (HA.out.below I4.bl) n ca1)
       have hct : ∀ W : World, (Instr.slice 40 (.slice A m.length ca) none (some (.int .i64 (n : Int))) none).run Tryz.prog W = .ok (.slice A n ca) W := fun W => Qgw A m.length ca n (by omega) ca2 W
       have hcf : ∀ W : World, (Instr.slice 40 (.slice A m.length ca) (some (.int .i64 (n : Int))) none none).run Tryz.prog W = .ok (.slice (cutI A ca n) (m.length - n) (ca - n)) W := fun W => Qep A m.length ca n hn ca1 ca2 W
       have J4 : Wo w wr gen (.slice A m.length ca) (.slice B b.length cb) (.slice C o.length cc) P a1 a2 a3 c1 c2 c3 m b o := ⟨I4, P4, ⟨F, G4.out, fun x hx => by have := HF.out x hx; exact ⟨by omega, this.2, by omega⟩⟩, zr2, ⟨k11, k12⟩, ⟨k21, k22⟩⟩
       have eln : n + 1 + (m.length - n) = (Qcx n who m).length := by simp [Qcx]; omega
       have K5 := J4.rep1 (l := Qcx n who m) b3 ow eln
       rw [← eln] at K5
       obtain ⟨N1, hN1⟩ : ∃ N1, N1 = n + 1 + (m.length - n) := ⟨_, rfl⟩
       rw [← hN1] at K5 hr3 eln
       have V3 := P4.below b3 P4.lt
       obtain ⟨q0, q1, q2, q3⟩ := V3.row4
       have q4 := V3.thaw 1
       have Sa := (I4.alloc (.cells #[] 3)).s4
       have Sb := (I4.below b2).s4
       obtain ⟨sa0, sa1, sa2, sa3⟩ := Sa
       obtain ⟨sb0, sb1, sb2, sb3⟩ := Sb
       have HK5 := hidP K5
       have HE1 := hidP eln
       clear V3 J4 K5 ow eln hN1 u0 u1 u2 u3 G4 I4 P4 b1 b2 b3
       go_upto_region 13 with (at_builtin; refine Qae rfl _ _ _ rfl _ _ _ rfl rfl hr1 ?_)
       go_upto_region 14 with (at_builtin; refine Qae rfl _ _ _ rfl _ _ _ rfl rfl hr2 ?_)
       go_upto_region 15 with (at_builtin; refine Qae rfl _ _ _ rfl _ _ _ rfl rfl hr3 ?_)
       generalize wc.setCell ⟨P, 1, none⟩ (.slice x3 N1 y3) = X5 at HK5 ⊢
       clear hr1 hr2 hr3 hct hcf q0 q1 q2 q3 q4 sa0 sa1 sa2 sa3 sb0 sb1 sb2 sb3
       have I6 := HK5.out.i
       have P6 := HK5.out.p
       rw [← HE1.out] at P6
       obtain ⟨u1', v1', wa', u2', v2', wb', u3', v3', wc', hs1, hs2, hs3, d1, d2, d3, ow'⟩ := Qff X5 B (cutI B cb n) cb (cb - n) n (b.length - n) (b.take n) (b.drop n) time (by simp; omega) (by simp) (by simp; omega) (by simp; omega) (Qd6 (HB.out.below I6.bl) n) (Qgy (HB.out.below I6.bl) n cb1)
       have hct : ∀ W : World, (Instr.slice 40 (.slice B b.length cb) none (some (.int .i64 (n : Int))) none).run Tryz.prog W = .ok (.slice B n cb) W := fun W => Qgw B b.length cb n (by omega) cb2 W
       have hcf : ∀ W : World, (Instr.slice 40 (.slice B b.length cb) (some (.int .i64 (n : Int))) none none).run Tryz.prog W = .ok (.slice (cutI B cb n) (b.length - n) (cb - n)) W := fun W => Qep B b.length cb n (by omega) cb1 cb2 W
       have elm : n + 1 + (b.length - n) = (Qcx n time b).length := by simp [Qcx]; omega
       have K7 := HK5.out.rep2 (l := Qcx n time b) d3 ow' elm
       rw [← elm] at K7
       obtain ⟨N2, hN2⟩ : ∃ N2, N2 = n + 1 + (b.length - n) := ⟨_, rfl⟩
       rw [← hN2] at K7 hs3 elm
       have V3 := P6.below d3 P6.lt
       obtain ⟨q0, q1, q2, q3⟩ := V3.row4
       have q4 := V3.thaw 2
       obtain ⟨sa0, sa1, sa2, sa3⟩ := (I6.alloc (.cells #[] 3)).s4
       obtain ⟨sb0, sb1, sb2, sb3⟩ := (I6.below d2).s4
       have HK7 := hidP K7
       have HE2 := hidP elm
       clear V3 K7 ow' elm hN2 HK5 I6 P6 d1 d2 d3
       go_upto_region 16 with (at_builtin; refine Qae rfl _ _ _ rfl _ _ _ rfl rfl hs1 ?_)
       go_upto_region 17 with (at_builtin; refine Qae rfl _ _ _ rfl _ _ _ rfl rfl hs2 ?_)
       go_upto_region 18 with (at_builtin; refine Qae rfl _ _ _ rfl _ _ _ rfl rfl hs3 ?_)
       generalize wc'.setCell ⟨P, 2, none⟩ (.slice u3' N2 v3') = X7 at HK7 ⊢
       clear hs1 hs2 hs3 hct hcf q0 q1 q2 q3 q4 sa0 sa1 sa2 sa3 sb0 sb1 sb2 sb3
       obtain ⟨u0, u1, u2, u3⟩ := HK7.out.i.s4
       go_wp2_with fail
       refine (Qfe gen hg _).mono ?_
       rintro e w9 ⟨rfl, h9⟩
       subst w9
       obtain ⟨F8, hG8, hF8⟩ := HK7.out.f
       have P8 := HK7.out.p
       rw [← HE1.out, ← HE2.out] at P8
       have k3 : Off [P] X7 (X7.setCell ⟨P, 0, none⟩ (.int .i64 (upF gen))) := Qbm (Off.refl _ _) _ 0 _ (by simp)
       have I9 := HK7.out.i.off k3 zr2
       have P9 : Blk (X7.setCell ⟨P, 0, none⟩ (.int .i64 (upF gen))) P 128 (Qak (upF gen) x3 N1 y3 u3' N2 v3' a3 o.length c3) := P8.setAt 0 _
       have G9 := hG8.off k3 (fun x hx => by have := (hF8 x hx).2.1; simpa using this)
       obtain ⟨x0', x1', x2', x3'⟩ := P8.row4
       obtain ⟨t0, t1, t2, t3⟩ := P9.row4
       have yy0 := P8.thaw 0
       obtain ⟨r0, r1, r2, r3⟩ := I9.r.row4
       have f0 := I9.r.thaw 0
       have f1 := I9.r.thaw 1
       have f2 := I9.r.thaw 2
       have f3 := I9.r.thaw 3
       obtain ⟨s0, s1, s2, s3⟩ := Qbz I9.r (.int .i64 (upF gen)) (.slice x3 N1 y3) (.slice u3' N2 v3') (.slice a3 o.length c3)
       have T' := Qb9 (gen' := upF gen) (c1 := y3) (c2 := v3') (c3 := c3) I9 G9 (fun x hx => by have := hF8 x hx; exact ⟨this.1, this.2.2⟩)
       rw [← HE1.out, ← HE2.out] at T'
       have T := hidP T'
       clear T' P8 P9 I9 G9 k3 hG8 hF8
       go_wp2
       exact bodyPost_ret (v := .agg (Qak (upF gen) x3 N1 y3 u3' N2 v3' a3 o.length c3)) (by simp [results, Tryz.results97, go_sem, s0, s1, s2, s3]) rfl (by rw [eM.out, eB.out, eG.out, hN.out]; exact T.out)
     . obtain ⟨b', o', rfl, hbs, hinA⟩ : ∃ b o, A = some ⟨b, o, none⟩ /\ b < w.heap.size /\ In w b o m := by
        rcases HA.out with h | h
        . subst h; simp at hlt
        . exact h
       have cA := (hinA.below hbs I4.bl).getInt n hlt
       have hi0 : (0 : Int) <= (n : Int) := by omega
       have hi1 : (n : Int) < (m.length : Int) := by omega
       have hi2 : (n : Int) < (b.length : Int) := by have := HBM.out; omega
       go_upto_region 12 with fail
       clear cA hi0 hi1 hi2 hlw
       generalize (some ⟨b', o', none⟩ : Option Addr) = A at *
       obtain ⟨x1, y1, wa, x2, y2, wb, x3, y3, wc, hr1, hr2, hr3, b1, b2, b3, ow⟩ := Qff wr A (cutI A ca n) ca (ca - n) n (m.length - n) (m.take n) (m.drop n) who (by simp; omega) (by simp) (by simp; omega) (by simp; omega) (Qd6 (HA.out.below I4.bl) n) (Qgy (HA.out.below I4.bl) n ca1)
       have hct : ∀ W : World, (Instr.slice 40 (.slice A m.length ca) none (some (.int .i64 (n : Int))) none).run Tryz.prog W = .ok (.slice A n ca) W := fun W => Qgw A m.length ca n (by omega) ca2 W
       have hcf : ∀ W : World, (Instr.slice 40 (.slice A m.length ca) (some (.int .i64 (n : Int))) none none).run Tryz.prog W = .ok (.slice (cutI A ca n) (m.length - n) (ca - n)) W := fun W => Qep A m.length ca n hn ca1 ca2 W
       have J4 : Wo w wr gen (.slice A m.length ca) (.slice B b.length cb) (.slice C o.length cc) P a1 a2 a3 c1 c2 c3 m b o := ⟨I4, P4, ⟨F, G4.out, fun x hx => by have := HF.out x hx; exact ⟨by omega, this.2, by omega⟩⟩, zr2, ⟨k11, k12⟩, ⟨k21, k22⟩⟩
       have eln : n + 1 + (m.length - n) = (Qcx n who m).length := by simp [Qcx]; omega
       have K5 := J4.rep1 (l := Qcx n who m) b3 ow eln
       rw [← eln] at K5
       obtain ⟨N1, hN1⟩ : ∃ N1, N1 = n + 1 + (m.length - n) := ⟨_, rfl⟩
       rw [← hN1] at K5 hr3 eln
       have V3 := P4.below b3 P4.lt
       obtain ⟨q0, q1, q2, q3⟩ := V3.row4
       have q4 := V3.thaw 1
       have Sa := (I4.alloc (.cells #[] 3)).s4
       have Sb := (I4.below b2).s4
       obtain ⟨sa0, sa1, sa2, sa3⟩ := Sa
       obtain ⟨sb0, sb1, sb2, sb3⟩ := Sb
       have HK5 := hidP K5
       have HE1 := hidP eln
       clear V3 J4 K5 ow eln hN1 u0 u1 u2 u3 G4 I4 P4 b1 b2 b3
       go_upto_region 13 with (at_builtin; refine Qae rfl _ _ _ rfl _ _ _ rfl rfl hr1 ?_)
       go_upto_region 14 with (at_builtin; refine Qae rfl _ _ _ rfl _ _ _ rfl rfl hr2 ?_)
       go_upto_region 15 with (at_builtin; refine Qae rfl _ _ _ rfl _ _ _ rfl rfl hr3 ?_)
       generalize wc.setCell ⟨P, 1, none⟩ (.slice x3 N1 y3) = X5 at HK5 ⊢
       clear hr1 hr2 hr3 hct hcf q0 q1 q2 q3 q4 sa0 sa1 sa2 sa3 sb0 sb1 sb2 sb3
       have I6 := HK5.out.i
       have P6 := HK5.out.p
       rw [← HE1.out] at P6
       obtain ⟨u1', v1', wa', u2', v2', wb', u3', v3', wc', hs1, hs2, hs3, d1, d2, d3, ow'⟩ := Qff X5 B (cutI B cb n) cb (cb - n) n (b.length - n) (b.take n) (b.drop n) time (by simp; omega) (by simp) (by simp; omega) (by simp; omega) (Qd6 (HB.out.below I6.bl) n) (Qgy (HB.out.below I6.bl) n cb1)
       have hct : ∀ W : World, (Instr.slice 40 (.slice B b.length cb) none (some (.int .i64 (n : Int))) none).run Tryz.prog W = .ok (.slice B n cb) W := fun W => Qgw B b.length cb n (by omega) cb2 W
       have hcf : ∀ W : World, (Instr.slice 40 (.slice B b.length cb) (some (.int .i64 (n : Int))) none none).run Tryz.prog W = .ok (.slice (cutI B cb n) (b.length - n) (cb - n)) W := fun W => Qep B b.length cb n (by omega) cb1 cb2 W
       have elm : n + 1 + (b.length - n) = (Qcx n time b).length := by simp [Qcx]; omega
       have K7 := HK5.out.rep2 (l := Qcx n time b) d3 ow' elm
       rw [← elm] at K7
       obtain ⟨N2, hN2⟩ : ∃ N2, N2 = n + 1 + (b.length - n) := ⟨_, rfl⟩
       rw [← hN2] at K7 hs3 elm
       have V3 := P6.below d3 P6.lt
       obtain ⟨q0, q1, q2, q3⟩ := V3.row4
       have q4 := V3.thaw 2
       obtain ⟨sa0, sa1, sa2, sa3⟩ := (I6.alloc (.cells #[] 3)).s4
       obtain ⟨sb0, sb1, sb2, sb3⟩ := (I6.below d2).s4
       have HK7 := hidP K7
       have HE2 := hidP elm
       clear V3 K7 ow' elm hN2 HK5 I6 P6 d1 d2 d3
       go_upto_region 16 with (at_builtin; refine Qae rfl _ _ _ rfl _ _ _ rfl rfl hs1 ?_)
       go_upto_region 17 with (at_builtin; refine Qae rfl _ _ _ rfl _ _ _ rfl rfl hs2 ?_)
       go_upto_region 18 with (at_builtin; refine Qae rfl _ _ _ rfl _ _ _ rfl rfl hs3 ?_)
       generalize wc'.setCell ⟨P, 2, none⟩ (.slice u3' N2 v3') = X7 at HK7 ⊢
       clear hs1 hs2 hs3 hct hcf q0 q1 q2 q3 q4 sa0 sa1 sa2 sa3 sb0 sb1 sb2 sb3
       obtain ⟨u0, u1, u2, u3⟩ := HK7.out.i.s4
       go_wp2_with fail
       refine (Qfe gen hg _).mono ?_
       rintro e w9 ⟨rfl, h9⟩
       subst w9
       obtain ⟨F8, hG8, hF8⟩ := HK7.out.f
       have P8 := HK7.out.p
       rw [← HE1.out, ← HE2.out] at P8
       have k3 : Off [P] X7 (X7.setCell ⟨P, 0, none⟩ (.int .i64 (upF gen))) := Qbm (Off.refl _ _) _ 0 _ (by simp)
       have I9 := HK7.out.i.off k3 zr2
       have P9 : Blk (X7.setCell ⟨P, 0, none⟩ (.int .i64 (upF gen))) P 128 (Qak (upF gen) x3 N1 y3 u3' N2 v3' a3 o.length c3) := P8.setAt 0 _
       have G9 := hG8.off k3 (fun x hx => by have := (hF8 x hx).2.1; simpa using this)
       obtain ⟨x0', x1', x2', x3'⟩ := P8.row4
       obtain ⟨t0, t1, t2, t3⟩ := P9.row4
       have yy0 := P8.thaw 0
       obtain ⟨r0, r1, r2, r3⟩ := I9.r.row4
       have f0 := I9.r.thaw 0
       have f1 := I9.r.thaw 1
       have f2 := I9.r.thaw 2
       have f3 := I9.r.thaw 3
       obtain ⟨s0, s1, s2, s3⟩ := Qbz I9.r (.int .i64 (upF gen)) (.slice x3 N1 y3) (.slice u3' N2 v3') (.slice a3 o.length c3)
       have T' := Qb9 (gen' := upF gen) (c1 := y3) (c2 := v3') (c3 := c3) I9 G9 (fun x hx => by have := hF8 x hx; exact ⟨this.1, this.2.2⟩)
       rw [← HE1.out, ← HE2.out] at T'
       have T := hidP T'
       clear T' P8 P9 I9 G9 k3 hG8 hF8
       go_wp2
       exact bodyPost_ret (v := .agg (Qak (upF gen) x3 N1 y3 u3' N2 v3' a3 o.length c3)) (by simp [results, Tryz.results97, go_sem, s0, s1, s2, s3]) rfl (by rw [eM.out, eB.out, eG.out, hN.out]; exact T.out)
end Go.Proofs.YtlniljigeemnoaaGreat.Gen
