/-
  spec.l5At, GroupLeave, GroupMark, of a client that is one, at groups that have as many beats as members: what they answer. No condition besides but that there are at most 1048576 members.
-/
import Derived.Test.YtlniljigeemnoaaGreatKPt2
set_option linter.unusedVariables false
set_option linter.unusedSimpArgs false
set_option maxRecDepth 100000
set_option maxHeartbeats 8000000
namespace Go.Proofs.YtlniljigeemnoaaGreat.Gen
open ChangeShapes WideShapes ChangeAt RowKit Joins Deep Base
def mAt (m : List Int) (who : Int) : Option Nat := if who ∈ m then some (m.idxOf who) else none
def mAtZ (m : List Int) (who : Int) : Int := match mAt m who with | none => -1 | some i => (i : Int)
theorem idx_hit {who : Int} : ∀ (m : List Int) (n : Nat) (h : n < m.length), m[n] = who -> (∀ x ∈ m.take n, x ≠ who) -> m.idxOf who = n
 | [], n, h, _, _ => by simp at h
 | x :: m, 0, _, e, _ => by simp at e; subst e; simp
 | x :: m, n + 1, h, e, hn => by
  have hx : x ≠ who := hn x (by simp)
  have := idx_hit m n (by simpa using h) (by simpa using e) (fun y hy => hn y (by simp [hy]))
  have hx' : (x == who) = false := by simpa using hx
  rw [List.idxOf_cons, hx', this]; rfl
theorem mAt_hit {m : List Int} {who : Int} {n : Nat} (h : n < m.length) (e : m[n] = who) (hn : ∀ x ∈ m.take n, x ≠ who) : mAt m who = some n := by
 unfold mAt
 rw [if_pos (e ▸ List.getElem_mem h), idx_hit m n h e hn]
theorem mAt_none {m : List Int} {who : Int} (h : ∀ x ∈ m, x ≠ who) : mAt m who = none := by unfold mAt; rw [if_neg (fun e => h who e rfl)]
theorem mAt_lt {m : List Int} {who : Int} {i : Nat} (h : mAt m who = some i) : i < m.length := by
 unfold mAt at h
 split at h
 . rename_i hm; cases h; exact List.idxOf_lt_length_of_mem hm
 . cases h
theorem l5At_any (gen who : Int) (A B C : Option Addr) (ca cb cc : Nat) (m b o : List Int) (hm : m.length <= 1048576) (w : World) (hA : At w A m) :
 Calls Tryz.prog 105 #[.agg (Qak gen A m.length ca B b.length cb C o.length cc), .int .i64 who] w fun e w' => e = .returned (.int .i64 (mAtZ m who)) /\ Below w.heap.size w w' := by
 have HA := hidP hA
 clear hA
 have p := Blk.new w 128 (Qak gen A m.length ca B b.length cb C o.length cc)
 have B0 : Below w.heap.size w (w.alloc (.cells (Qak gen A m.length ca B b.length cb C o.length cc) 128)) := Qaf (Below.refl _ _) _
 go_enter Tryz.func105, Tryz.ntmps105
 go_wp2
 go_loopw [5] (fun i W => ∃ n : Nat, i = .int .i64 (n : Int) /\ n <= m.length /\ W = w.alloc (.cells (Qak gen A m.length ca B b.length cb C o.length cc) 128) /\ Hid (∀ x ∈ m.take n, x ≠ who)) (fun i _ => m.length - (intOf i).toNat)
 case atStart => exact ⟨0, rfl, by omega, rfl, by show ∀ x ∈ _, _; simp⟩
 case round =>
  obtain ⟨n, rfl, hn, rfl, hno⟩ := hrel
  obtain ⟨u0, u1, u2, u3⟩ := p.row4
  by_cases hlt : n < m.length
  . obtain ⟨b', o', rfl, hbs, hin⟩ : ∃ b o, A = some ⟨b, o, none⟩ /\ b < w.heap.size /\ In w b o m := by
     rcases HA.out with h | h
     . subst h; simp at hlt
     . exact h
    have c0 := (hin.below hbs B0).getInt n hlt
    have hi0 : (0 : Int) <= (n : Int) := by omega
    have hi1 : (n : Int) < (m.length : Int) := by omega
    by_cases he : m[n] = who
    . have hz : Hid (mAtZ m who = (n : Int)) := by show _ = _; unfold mAtZ; rw [mAt_hit hlt he hno.out]
      go_wp2
      go_ret
      exact ⟨by rw [hz.out]; rfl, B0⟩
    . go_wp2
      refine ⟨⟨n + 1, by go_num, by omega, (by first | rfl | trivial), ?_⟩, by simp [intOf]; omega⟩
      show ∀ x ∈ _, _
      intro x hx
      rw [List.take_succ_eq_append_getElem hlt, List.mem_append] at hx
      rcases hx with hx | hx
      . exact hno.out x hx
      . simp at hx; subst hx; exact he
  . have hz : Hid (mAtZ m who = -1) := by
     show _ = _
     unfold mAtZ
     rw [mAt_none (fun x hx => hno.out x (by rw [List.take_of_length_le (by omega)]; exact hx))]
    go_wp2
    go_ret
    exact ⟨by rw [hz.out]; rfl, B0⟩
theorem Qbz {W : World} {p : Nat} {x0 x1 x2 x3 : Value} (h : Blk W p 128 #[x0, x1, x2, x3]) (g v1 v2 v3 : Value) :
 (W.setCell ⟨p, 0, none⟩ g).cell? ⟨p, 0, none⟩ = some g /\ ((W.setCell ⟨p, 0, none⟩ g).setCell ⟨p, 1, none⟩ v1).cell? ⟨p, 1, none⟩ = some v1 /\ (((W.setCell ⟨p, 0, none⟩ g).setCell ⟨p, 1, none⟩ v1).setCell ⟨p, 2, none⟩ v2).cell? ⟨p, 2, none⟩ = some v2 /\
  ((((W.setCell ⟨p, 0, none⟩ g).setCell ⟨p, 1, none⟩ v1).setCell ⟨p, 2, none⟩ v2).setCell ⟨p, 3, none⟩ v3).cell? ⟨p, 3, none⟩ = some v3 :=
 ⟨(h.setAt 0 g).cell (by rfl), ((h.setAt 0 g).setAt 1 v1).cell (by rfl), (((h.setAt 0 g).setAt 1 v1).setAt 2 v2).cell (by rfl), ((((h.setAt 0 g).setAt 1 v1).setAt 2 v2).setAt 3 v3).cell (by rfl)⟩
theorem Qb9 {w W : World} {gen gen' : Int} {vm vb vo : Value} {a1 a2 a3 : Option Addr} {c1 c2 c3 : Nat} {m b o : List Int} {F : List Nat} (I : Wi w W gen vm vb vo) (hG : Gp W a1 a2 a3 m b o F) (hF : ∀ x ∈ F, w.heap.size <= x /\ x ≠ w.heap.size + 1) :
 Qgz w (putG W (w.heap.size + 1) (.int .i64 gen') (.slice a1 m.length c1) (.slice a2 b.length c2) (.slice a3 o.length c3)) (.returned (.agg (Qak gen' a1 m.length c1 a2 b.length c2 a3 o.length c3))) gen' m b o :=
 ⟨a1, a2, a3, c1, c2, c3, F, rfl, I.bl.trans ((Qcb _ (w.heap.size + 1) _ _ _ _).toBelow (by simp) I.bl.size), hG.off (Qcb _ _ _ _ _ _) (fun x hx => by simpa using (hF x hx).2), fun x hx => (hF x hx).1⟩
def Qdh (gen : Int) (m : List Int) (who : Int) : Int := match mAt m who with | none => gen | some _ => upF gen
def Qce (m : List Int) (who : Int) (l : List Int) : List Int := match mAt m who with | none => l | some i => l.eraseIdx i
theorem Qgk (gen who : Int) (hg : I64 gen) (hw : 0 <= who /\ who <= 3) (A B C : Option Addr) (ca cb cc : Nat) (m b o : List Int) (hm : m.length <= 1048576) (hb : b.length <= 1048576) (ho : o.length <= 1048576) (hca : m.length <= ca /\ ca <= 9223372036854775807) (hcb : b.length <= cb /\ cb <= 9223372036854775807) (w : World) (hA : At w A m) (hB : At w B b) (hC : At w C o) :
 Calls Tryz.prog 98 #[.agg (Qak gen A m.length ca B b.length cb C o.length cc), .int .i64 who] w fun e w' => Qgz w w' e (Qdh gen m who) (Qce m who m) (Qce m who b) o := by
 have HA := hidP hA
 have HB := hidP hB
 have HC := hidP hC
 clear hA hB hC
 have I0 : Wi w ((w.alloc (.cells (Qak gen A m.length ca B b.length cb C o.length cc) 128)).alloc (.cells Qb0 128)) gen (.slice A m.length ca) (.slice B b.length cb) (.slice C o.length cc) := ⟨by repeat (first | exact Below.refl _ _ | assumption | refine via0 (by assumption) ?_ | refine Below.drew ?_ | refine Qaf ?_ _), (Blk.new w 128 (Qak gen A m.length ca B b.length cb C o.length cc)).alloc _, by have := Blk.new (w.alloc (.cells (Qak gen A m.length ca B b.length cb C o.length cc) 128)) 128 Qb0; rw [World.size_alloc] at this; exact this⟩
 have hin : inB who 0 3 = true := by simp [inB]; exact hw
 unfold Qdh Qce
 have hZ : Hid (mAtZ m who = match mAt m who with | none => -1 | some i => (i : Int)) := rfl
 have hL : Hid (∀ i, mAt m who = some i -> i < m.length) := fun i h => mAt_lt h
 have HCt : Hid (∀ W : World, Below w.heap.size w W -> Calls Tryz.prog 105 #[.agg (Qak gen A m.length ca B b.length cb C o.length cc), .int .i64 who] W fun e w' => e = .returned (.int .i64 (mAtZ m who)) /\ Below W.heap.size W w') := fun W g => l5At_any gen who A B C ca cb cc m b o hm W (HA.out.below g)
 generalize mAtZ m who = z at hZ HCt
 generalize mAt m who = mo at hZ hL ⊢
 cases mo with
 | none =>
  have ez : z = -1 := hZ.out
  subst ez
  clear hZ hL
  go_enter Tryz.func98, Tryz.ntmps98
  go_wp2_with fail
  generalize (w.alloc (.cells (Qak gen A m.length ca B b.length cb C o.length cc) 128)).alloc (.cells Qb0 128) = X0 at I0 ⊢
  refine (HCt.out _ I0.bl).mono ?_
  rintro e w1 ⟨rfl, g1⟩
  have I1 := I0.below g1
  obtain ⟨u0, u1, u2, u3⟩ := I1.s4
  clear I0 g1
  go_wp2_with fail
  refine (Qct gen A B C ca cb cc m b o hm hb ho _ (HA.out.below I1.bl) (HB.out.below I1.bl) (HC.out.below I1.bl)).mono ?_
  rintro e w2 ⟨a1, a2, a3, c1, c2, c3, F, rfl, g2, hG, hF, k1, k2⟩
  have I2 := I1.below g2
  have zr := I1.r.lt
  obtain ⟨r0, r1, r2, r3⟩ := I2.r.row4
  have f0 := I2.r.thaw 0
  have f1 := I2.r.thaw 1
  have f2 := I2.r.thaw 2
  have f3 := I2.r.thaw 3
  obtain ⟨s0, s1, s2, s3⟩ := Qbz I2.r (.int .i64 gen) (.slice a1 m.length c1) (.slice a2 b.length c2) (.slice a3 o.length c3)
  have T := hidP (Qb9 (gen' := gen) (c1 := c1) (c2 := c2) (c3 := c3) I2 hG (fun x hx => by have := hF x hx; have := I1.bl.size; omega))
  clear hG hF g2 k1 k2 I1 u0 u1 u2 u3
  go_wp2
  exact bodyPost_ret (v := .agg (Qak gen a1 m.length c1 a2 b.length c2 a3 o.length c3)) (by simp [results, Tryz.results98, go_sem, s0, s1, s2, s3]) rfl T.out
 | some i =>
  have ez : z = (i : Int) := hZ.out
  have hi := hL.out i rfl
  subst ez
  clear hZ hL
  go_enter Tryz.func98, Tryz.ntmps98
  go_wp2_with fail
  generalize (w.alloc (.cells (Qak gen A m.length ca B b.length cb C o.length cc) 128)).alloc (.cells Qb0 128) = X0 at I0 ⊢
  refine (HCt.out _ I0.bl).mono ?_
  rintro e w1 ⟨rfl, g1⟩
  have I1 := I0.below g1
  obtain ⟨u0, u1, u2, u3⟩ := I1.s4
  have hi0 : ¬ (i : Int) < 0 := by omega
  clear I0 g1
  go_wp2_with fail
  refine (Qbp _ _ _ _).mono ?_
  rintro e w1' ⟨rfl, rfl⟩
  rw [hin]
  go_wp2_with fail
  refine (Qda gen A B C ca cb cc m b o hm hb ho hca hcb i hi _ (HA.out.below I1.bl) (HB.out.below I1.bl) (HC.out.below I1.bl)).mono ?_
  rintro e w2 ⟨a1, a2, a3, c1, c2, c3, F, rfl, g2, hG, hF, k1, k2⟩
  have I2 := (I1.below g2).alloc (.cells (Qak gen a1 (m.eraseIdx i).length c1 a2 (b.eraseIdx i).length c2 a3 o.length c3) 128)
  have P2 := Blk.new w2 128 (Qak gen a1 (m.eraseIdx i).length c1 a2 (b.eraseIdx i).length c2 a3 o.length c3)
  have G2 := hidP (hG.alloc (.cells (Qak gen a1 (m.eraseIdx i).length c1 a2 (b.eraseIdx i).length c2 a3 o.length c3) 128))
  have lF := hidP hG.lt
  have zr := Nat.lt_of_lt_of_le I1.r.lt g2.size
  have zb := I1.bl.size
  have z1 := I1.r.lt
  have HF := hidP hF
  obtain ⟨M, hM⟩ : ∃ M, M = m.eraseIdx i := ⟨_, rfl⟩
  obtain ⟨N, hN⟩ : ∃ N, N = b.eraseIdx i := ⟨_, rfl⟩
  simp only [← hM, ← hN] at I2 P2 G2 lF ⊢
  have HM := hidP hM
  have HN := hidP hN
  clear hM hN hG hF g2 k1 k2 I1 u0 u1 u2 u3
  obtain ⟨u0, u1, u2, u3⟩ := I2.s4
  go_wp2_with fail
  generalize w2.alloc (.cells (Qak gen a1 M.length c1 a2 N.length c2 a3 o.length c3) 128) = X2 at I2 P2 G2 u0 u1 u2 u3 ⊢
  generalize w2.heap.size = P at P2 lF zr ⊢
  refine (Qfe gen hg _).mono ?_
  rintro e w3 ⟨rfl, h9⟩
  subst w3
  have P3 : Blk (X2.setCell ⟨P, 0, none⟩ (.int .i64 (upF gen))) P 128 (Qak (upF gen) a1 M.length c1 a2 N.length c2 a3 o.length c3) := P2.setAt 0 _
  have k3 : Off [P] X2 (X2.setCell ⟨P, 0, none⟩ (.int .i64 (upF gen))) := Qbm (Off.refl _ _) _ 0 _ (by simp)
  have I3 := I2.off k3 zr
  have G3 := hidP (G2.out.off k3 (fun x hx => by have := lF.out x hx; simp; omega))
  have hne1 : P ≠ w.heap.size + 1 := by omega
  have hne2 : w.heap.size + 1 ≠ P := by omega
  obtain ⟨x0, x1, x2, x3⟩ := P2.row4
  obtain ⟨t0, t1, t2, t3⟩ := P3.row4
  have y0 := P2.thaw 0
  obtain ⟨r0, r1, r2, r3⟩ := I3.r.row4
  have f0 := I3.r.thaw 0
  have f1 := I3.r.thaw 1
  have f2 := I3.r.thaw 2
  have f3 := I3.r.thaw 3
  obtain ⟨s0, s1, s2, s3⟩ := Qbz I3.r (.int .i64 (upF gen)) (.slice a1 M.length c1) (.slice a2 N.length c2) (.slice a3 o.length c3)
  have T := hidP (Qb9 (gen' := upF gen) (c1 := c1) (c2 := c2) (c3 := c3) I3 G3.out (fun x hx => by have := HF.out x hx; omega))
  clear P2 P3 k3 I2 I3 G2 G3
  go_wp2
  have e1 := HM.out
  have e2 := HN.out
  subst e1 e2
  exact bodyPost_ret (v := .agg (Qak (upF gen) a1 (m.eraseIdx i).length c1 a2 (b.eraseIdx i).length c2 a3 o.length c3)) (by simp [results, Tryz.results98, go_sem, s0, s1, s2, s3]) rfl T.out
def Qeh (m o : List Int) (who row off : Int) : Bool := inB row 0 ((o.length : Int) - 1) && (ownF m row == who) && decide (o.getD row.toNat 0 <= off)
def Qgn (m o : List Int) (who row off : Int) : List Int := if Qeh m o who row off then o.set row.toNat off else o
end Go.Proofs.YtlniljigeemnoaaGreat.Gen
