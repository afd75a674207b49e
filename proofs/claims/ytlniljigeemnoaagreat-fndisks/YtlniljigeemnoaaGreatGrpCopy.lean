/-
  The specification's copy of a group, at this seat. No condition but that its lists have at most 1048576 numbers.
-/
import Derived.Test.YtlniljigeemnoaaGreatCopies
import Derived.Test.YtlniljigeemnoaaGreatKeepV
set_option linter.unusedVariables false
set_option linter.unusedSimpArgs false
set_option maxRecDepth 100000
set_option maxHeartbeats 8000000
namespace Go.Proofs.YtlniljigeemnoaaGreat.Gen
open ChangeShapes WideShapes ChangeAt RowKit Joins Deep Base
def Dis (v u : Value) : Prop := ∀ x, v.ownBlock = some x -> u.ownBlock ≠ some x
theorem Dis.symm {v u : Value} (h : Dis v u) : Dis u v := fun x hx hy => h x hy hx
structure Tri (q : Nat) (W : World) (v1 v2 v3 : Value) (l1 l2 l3 : List Int) : Prop where
  o1 : W.ownsRow q 3 1 v1 l1.length (flat l1)
  o2 : W.ownsRow q 3 1 v2 l2.length (flat l2)
  o3 : W.ownsRow q 3 1 v3 l3.length (flat l3)
  d12 : Dis v1 v2
  d13 : Dis v1 v3
  d23 : Dis v2 v3
  q : q <= W.heap.size
theorem Tri.nil (q : Nat) (W : World) (hq : q <= W.heap.size) : Tri q W (.slice none 0 0) (.slice none 0 0) (.slice none 0 0) [] [] [] :=
 ⟨World.ownsRow_nil _ _ _ _, World.ownsRow_nil _ _ _ _, World.ownsRow_nil _ _ _ _, (fun x h => by cases h), (fun x h => by cases h), (fun x h => by cases h), hq⟩
section
variable {q : Nat} {W : World} {v1 v2 v3 : Value} {l1 l2 l3 : List Int}
theorem Tri.s12 (h : Tri q W v1 v2 v3 l1 l2 l3) : Tri q W v2 v1 v3 l2 l1 l3 := ⟨h.o2, h.o1, h.o3, h.d12.symm, h.d23, h.d13, h.q⟩
theorem Tri.s13 (h : Tri q W v1 v2 v3 l1 l2 l3) : Tri q W v3 v2 v1 l3 l2 l1 := ⟨h.o3, h.o2, h.o1, h.d23.symm, h.d13.symm, h.d12.symm, h.q⟩
theorem Tri.new1 {g : Nat} (h : Tri q W (.slice none 0 0) v2 v3 [] l2 l3) (hg : W.heap.size = g) : Tri q (W.alloc (.cells #[] 3)) (.slice (some ⟨g, 0, none⟩) 0 0) v2 v3 [] l2 l3 := by
 subst hg
 refine ⟨World.ownsRow_made W #[] 0 h.q (by simp [maxLen]) rfl, Qav h.o2 _, Qav h.o3 _, fun x hx hy => ?_, fun x hx hy => ?_, h.d23, by have := h.q; simp; omega⟩
 . cases hx; exact Nat.lt_irrefl _ (Qbw h.o2 hy)
 . cases hx; exact Nat.lt_irrefl _ (Qbw h.o3 hy)
theorem Tri.new2 {g : Nat} (h : Tri q W v1 (.slice none 0 0) v3 l1 [] l3) (hg : W.heap.size = g) : Tri q (W.alloc (.cells #[] 3)) v1 (.slice (some ⟨g, 0, none⟩) 0 0) v3 l1 [] l3 := (h.s12.new1 hg).s12
theorem Tri.new3 {g : Nat} (h : Tri q W v1 v2 (.slice none 0 0) l1 l2 []) (hg : W.heap.size = g) : Tri q (W.alloc (.cells #[] 3)) v1 v2 (.slice (some ⟨g, 0, none⟩) 0 0) l1 l2 [] := (h.s13.new1 hg).s13
theorem Qdp {B : Nat} {W W' : World} {v : Value} {t : TypeId} {k n : Nat} {xs : List Value} {row : Option Nat} (h : W.ownsRow B t k v n xs) (hg : W.grownBy W' row) (hne : ∀ x, v.ownBlock = some x -> some x ≠ row) : W'.ownsRow B t k v n xs := by
 refine ⟨h.1, ?_⟩
 rcases h.2 with ⟨rfl, rfl⟩ | ⟨g, c, cur, rfl, hB, hb, hc, hm, hsz, ht⟩
 . exact .inl ⟨rfl, rfl⟩
 . exact .inr ⟨g, c, cur, rfl, hB, Blk.kept (show Blk W g t cur from hb) hg (hne g rfl), hc, hm, hsz, ht⟩
theorem Tri.app1 {A : Option Addr} {cap : Nat} {m : List Int} (h : Tri q W v1 v2 v3 [] l2 l3) (hA : At W A m) (hm : m.length <= 1048576) :
 ∃ a c w', (Builtin.append_ #[40, 40] 40 #[v1, .slice A m.length cap]).run Tryz.prog W = .ok (.slice a m.length c) w' /\ Tri q w' (.slice a m.length c) v2 v3 m l2 l3 /\ (∀ p t vs, t ≠ 3 -> Blk W p t vs -> Blk w' p t vs) /\ Below q W w' := by
 obtain ⟨v, w1, hr, hown, hgrow, hat⟩ := Qbd (P := Tryz.prog) Tryz.underlying40 Qdb rfl (by decide) (by decide) q v1 ([] : List Int) m A cap W h.q h.o1 hA (by simp; omega)
 simp only [List.length_nil, Nat.zero_add, List.nil_append] at hown
 obtain ⟨a, c, rfl, _⟩ := Qao hown
 refine ⟨a, c, w1, hr, ⟨hown, Qdp h.o2 hgrow (fun x hx e => h.d12 x e.symm hx), Qdp h.o3 hgrow (fun x hx e => h.d13 x e.symm hx), fun x hx hy => ?_, fun x hx hy => ?_, h.d23, Nat.le_trans h.q hgrow.size⟩, fun p t vs ht hp => hp.kept hgrow (fun e => Qch h.o1 hp (Ne.symm ht) p e.symm rfl), ?_⟩
 . rcases hat with e | e
   . exact h.d12 x (e ▸ hx) hy
   . rw [e] at hx; cases hx; exact Nat.lt_irrefl _ (Qbw h.o2 hy)
 . rcases hat with e | e
   . exact h.d13 x (e ▸ hx) hy
   . rw [e] at hx; cases hx; exact Nat.lt_irrefl _ (Qbw h.o3 hy)
 . exact (Below.refl _ W).grown hgrow h.q (fun k e => (h.o1.lt k e).1)
theorem Tri.app2 {A : Option Addr} {cap : Nat} {m : List Int} (h : Tri q W v1 v2 v3 l1 [] l3) (hA : At W A m) (hm : m.length <= 1048576) :
 ∃ a c w', (Builtin.append_ #[40, 40] 40 #[v2, .slice A m.length cap]).run Tryz.prog W = .ok (.slice a m.length c) w' /\ Tri q w' v1 (.slice a m.length c) v3 l1 m l3 /\ (∀ p t vs, t ≠ 3 -> Blk W p t vs -> Blk w' p t vs) /\ Below q W w' := by
 obtain ⟨a, c, w', h1, h2, h3⟩ := h.s12.app1 (cap := cap) hA hm
 exact ⟨a, c, w', h1, h2.s12, h3⟩
theorem Tri.app3 {A : Option Addr} {cap : Nat} {m : List Int} (h : Tri q W v1 v2 v3 l1 l2 []) (hA : At W A m) (hm : m.length <= 1048576) :
 ∃ a c w', (Builtin.append_ #[40, 40] 40 #[v3, .slice A m.length cap]).run Tryz.prog W = .ok (.slice a m.length c) w' /\ Tri q w' v1 v2 (.slice a m.length c) l1 l2 m /\ (∀ p t vs, t ≠ 3 -> Blk W p t vs -> Blk w' p t vs) /\ Below q W w' := by
 obtain ⟨a, c, w', h1, h2, h3⟩ := h.s13.app1 (cap := cap) hA hm
 exact ⟨a, c, w', h1, h2.s13, h3⟩
theorem Tri.gp {a1 a2 a3 : Option Addr} {c1 c2 c3 p : Nat} {vs : Array Value} (h : Tri q W (.slice a1 l1.length c1) (.slice a2 l2.length c2) (.slice a3 l3.length c3) l1 l2 l3) (hp : Blk W p 128 vs) : ∃ F, Gp W a1 a2 a3 l1 l2 l3 F /\ ∀ x ∈ F, q <= x /\ x ≠ p := by
 obtain ⟨_, F1, s1, k1⟩ := Sl.of_fresh (Qb6 (α := Int) rfl h.o1)
 obtain ⟨_, F2, s2, k2⟩ := Sl.of_fresh (Qb6 (α := Int) rfl h.o2)
 obtain ⟨_, F3, s3, k3⟩ := Sl.of_fresh (Qb6 (α := Int) rfl h.o3)
 have u1 := sl_own s1 l1.length c1
 have u2 := sl_own s2 l2.length c2
 have u3 := sl_own s3 l3.length c3
 refine ⟨F1 ++ (F2 ++ F3), ⟨F1, F2, F3, rfl, s1, s2, s3, ?_⟩, ?_⟩
 . rw [List.nodup_append, List.nodup_append]
   refine ⟨s1.nodup, ⟨s2.nodup, s3.nodup, fun x hx y hy e => ?_⟩, fun x hx y hy e => ?_⟩
   . subst e; exact h.d23 x (u2 x hx) (u3 x hy)
   . subst e
     rcases List.mem_append.1 hy with hy | hy
     . exact h.d12 x (u1 x hx) (u2 x hy)
     . exact h.d13 x (u1 x hx) (u3 x hy)
 . intro x hx
   simp only [List.mem_append] at hx
   rcases hx with e | e | e
   . exact ⟨k1 x e, Qch h.o1 hp (by decide) x (u1 x e)⟩
   . exact ⟨k2 x e, Qch h.o2 hp (by decide) x (u2 x e)⟩
   . exact ⟨k3 x e, Qch h.o3 hp (by decide) x (u3 x e)⟩
end
theorem Wi.s4 {w W : World} {gen : Int} {vm vb vo : Value} (h : Wi w W gen vm vb vo) : W.cell? ⟨w.heap.size, 0, none⟩ = some (.int .i64 gen) /\ W.cell? ⟨w.heap.size, 1, none⟩ = some vm /\ W.cell? ⟨w.heap.size, 2, none⟩ = some vb /\ W.cell? ⟨w.heap.size, 3, none⟩ = some vo := h.g.row4
theorem Wi.kept {w W W' : World} {gen : Int} {vm vb vo : Value} (h : Wi w W gen vm vb vo) (k : ∀ p t vs, t ≠ 3 -> Blk W p t vs -> Blk W' p t vs) (hb : Below (w.heap.size + 2) W W') : Wi w W' gen vm vb vo :=
 ⟨h.bl.trans ⟨hb.os, hb.tape, hb.output, hb.size, fun i hi => hb.block i (by omega)⟩, k _ _ _ (by decide) h.g, k _ _ _ (by decide) h.r⟩
theorem Qfd {B : Nat} {W : World} {a : Option Addr} {n c : Nat} {t : TypeId} {k : Nat} {xs : List Value} (h : W.ownsRow B t k (.slice a n c) n xs) : n <= c /\ c <= 9223372036854775807 := by
 rcases h.2 with ⟨e, rfl⟩ | ⟨g, c', cur, e, hB, hb, hc, hm, _⟩
 . cases e; exact ⟨Nat.le_refl _, by decide⟩
 . cases e; simp [maxLen] at hm; exact ⟨hc, by omega⟩
def ToldC (w w' : World) (e : Ending) (gen : Int) (m b o : List Int) : Prop :=
  ∃ (a1 a2 a3 : Option Addr) (c1 c2 c3 : Nat) (F : List Nat), e = .returned (.agg (Qak gen a1 m.length c1 a2 b.length c2 a3 o.length c3)) /\ Below w.heap.size w w' /\ Gp w' a1 a2 a3 m b o F /\ (∀ x ∈ F, w.heap.size <= x) /\ (m.length <= c1 /\ c1 <= 9223372036854775807) /\ (b.length <= c2 /\ c2 <= 9223372036854775807)
theorem ToldC.g {w w' : World} {e : Ending} {gen : Int} {m b o : List Int} (h : ToldC w w' e gen m b o) : Qgz w w' e gen m b o := by
 obtain ⟨a1, a2, a3, c1, c2, c3, F, h1, h2, h3, h4, _⟩ := h
 exact ⟨a1, a2, a3, c1, c2, c3, F, h1, h2, h3, h4⟩
theorem Tri.told {w W : World} {gen : Int} {vm vb vo : Value} {a1 a2 a3 : Option Addr} {c1 c2 c3 : Nat} {m b o : List Int} (T : Tri (w.heap.size + 2) W (.slice a1 m.length c1) (.slice a2 b.length c2) (.slice a3 o.length c3) m b o) (I : Wi w W gen vm vb vo) :
 ToldC w (putG W (w.heap.size + 1) (.int .i64 gen) (.slice a1 m.length c1) (.slice a2 b.length c2) (.slice a3 o.length c3)) (.returned (.agg (Qak gen a1 m.length c1 a2 b.length c2 a3 o.length c3))) gen m b o := by
 obtain ⟨F, hG, hF⟩ := T.gp I.r
 exact ⟨a1, a2, a3, c1, c2, c3, F, rfl, I.bl.trans ((Qcb W (w.heap.size + 1) _ _ _ _).toBelow (by simp) I.bl.size), hG.off (Qcb W (w.heap.size + 1) _ _ _ _) (fun x hx => by simpa using (hF x hx).2), fun x hx => by have := (hF x hx).1; omega, Qfd T.o1, Qfd T.o2⟩
theorem Qct (gen : Int) (A B C : Option Addr) (ca cb cc : Nat) (m b o : List Int) (hm : m.length <= 1048576) (hb : b.length <= 1048576) (ho : o.length <= 1048576) (w : World) (hA : At w A m) (hB : At w B b) (hC : At w C o) :
 Calls Tryz.prog 90 #[.agg (Qak gen A m.length ca B b.length cb C o.length cc)] w fun e w' => ToldC w w' e gen m b o := by
 have HA := hidP hA
 have HB := hidP hB
 have HC := hidP hC
 clear hA hB hC
 go_enter Tryz.func90, Tryz.ntmps90
 go_wp2_with fail
 have I : Wi w ((w.alloc (.cells (Qak gen A m.length ca B b.length cb C o.length cc) 128)).alloc (.cells Qb0 128)).drew gen (.slice A m.length ca) (.slice B b.length cb) (.slice C o.length cc) := ⟨by repeat (first | exact Below.refl _ _ | assumption | refine via0 (by assumption) ?_ | refine Below.drew ?_ | refine Qaf ?_ _), (Blk.new w 128 (Qak gen A m.length ca B b.length cb C o.length cc)).alloc _, by have := Blk.new (w.alloc (.cells (Qak gen A m.length ca B b.length cb C o.length cc) 128)) 128 Qb0; rw [World.size_alloc] at this; exact this⟩
 have T := Tri.nil (w.heap.size + 2) ((w.alloc (.cells (Qak gen A m.length ca B b.length cb C o.length cc) 128)).alloc (.cells Qb0 128)).drew (by simp)
 refine wp_region_noPanic ?_
 refine wp_region_held_drew (S := fun (w' : World) => w'.cell? ⟨w.heap.size, 0, none⟩ = some (.int .i64 gen) /\ w'.cell? ⟨w.heap.size, 1, none⟩ = some (.slice A m.length ca) /\ w'.cell? ⟨w.heap.size, 2, none⟩ = some (.slice B b.length cb) /\ w'.cell? ⟨w.heap.size, 3, none⟩ = some (.slice C o.length cc)) (by kernel_rfl) ?_ (fun hH => ?_)
 . exact I.s4
 refine ztk [0,1,3,4,7,8,11,12] ?_; repeat (refine ztn (h := ?_); try simp only [zX,zY])
 refine zte ?_
 refine zR3 2 6 10 (fun K hK => ?_) (fun K hK => ?_) (fun K hK => ?_)
 focus
  simp only [zG]
  go_simp
  have T := T.new1 (g := w.heap.size + 1 + 1) (by simp); have I := I.alloc (.cells #[] 3)
  refine hK.out _ _ I.s4 fun hH => ?_; clear hK K; try simp only [zX,zY]
  refine zR3 5 6 10 (fun K hK => ?_) (fun K hK => ?_) (fun K hK => ?_)
  focus
   simp only [zG]
   obtain ⟨x1, y1, w1, hr1, T', hk1, hb1⟩ := T.app1 (cap := ca) (HA.out.below I.bl) hm; have T := T'; clear T'; rw [if_pos (by rfl)]; refine Qag _ _ _ (by rfl) _ _ _ (by rfl) (by rfl) hr1 ?_; have I := I.kept hk1 hb1; clear hr1 hk1 hb1
   refine hK.out _ _ I.s4 fun hH => ?_; clear hK K; try simp only [zX,zY]
   refine zR2 6 10 (fun K hK => ?_) (fun K hK => ?_)
   focus
    simp only [zG]
    go_simp
    have T := T.new2 (g := w1.heap.size) (by simp); have I := I.alloc (.cells #[] 3)
    refine hK.out _ _ I.s4 fun hH => ?_; clear hK K; try simp only [zX,zY]
    refine zR2 9 10 (fun K hK => ?_) (fun K hK => ?_)
    focus
     simp only [zG]
     obtain ⟨x2, y2, w2, hr2, T', hk2, hb2⟩ := T.app2 (cap := cb) (HB.out.below I.bl) hb; have T := T'; clear T'; rw [if_pos (by rfl)]; refine Qag _ _ _ (by rfl) _ _ _ (by rfl) (by rfl) hr2 ?_; have I := I.kept hk2 hb2; clear hr2 hk2 hb2
     refine hK.out _ _ I.s4 fun hH => ?_; clear hK K; try simp only [zX,zY]
     refine zR1 10 (fun K hK => ?_)
     simp only [zG]
     go_simp
     have T := T.new3 (g := w2.heap.size) (by simp); have I := I.alloc (.cells #[] 3)
    rotate_left
    focus
     simp only [zG]
     go_simp
     have T := T.new3 (g := w1.heap.size + 1) (by simp); have I := I.alloc (.cells #[] 3)
     refine hK.out _ _ I.s4 fun hH => ?_; clear hK K; try simp only [zX,zY]
     refine zR1 9 (fun K hK => ?_)
     simp only [zG]
     obtain ⟨x2, y2, w2, hr2, T', hk2, hb2⟩ := T.app2 (cap := cb) (HB.out.below I.bl) hb; have T := T'; clear T'; rw [if_pos (by rfl)]; refine Qag _ _ _ (by rfl) _ _ _ (by rfl) (by rfl) hr2 ?_; have I := I.kept hk2 hb2; clear hr2 hk2 hb2
   rotate_left 2
   focus
    simp only [zG]
    go_simp
    have T := T.new3 (g := w1.heap.size) (by simp); have I := I.alloc (.cells #[] 3)
    refine hK.out _ _ I.s4 fun hH => ?_; clear hK K; try simp only [zX,zY]
    refine zR1 6 (fun K hK => ?_)
    simp only [zG]
    go_simp
    have T := T.new2 (g := w1.heap.size + 1) (by simp); have I := I.alloc (.cells #[] 3)
    refine hK.out _ _ I.s4 fun hH => ?_; clear hK K; try simp only [zX,zY]
    refine zR1 9 (fun K hK => ?_)
    simp only [zG]
    obtain ⟨x2, y2, w2, hr2, T', hk2, hb2⟩ := T.app2 (cap := cb) (HB.out.below I.bl) hb; have T := T'; clear T'; rw [if_pos (by rfl)]; refine Qag _ _ _ (by rfl) _ _ _ (by rfl) (by rfl) hr2 ?_; have I := I.kept hk2 hb2; clear hr2 hk2 hb2
  rotate_left 3
  focus
   simp only [zG]
   go_simp
   have T := T.new2 (g := w.heap.size + 1 + 1 + 1) (by simp); have I := I.alloc (.cells #[] 3)
   refine hK.out _ _ I.s4 fun hH => ?_; clear hK K; try simp only [zX,zY]
   refine zR2 5 10 (fun K hK => ?_) (fun K hK => ?_)
   focus
    simp only [zG]
    obtain ⟨x1, y1, w1, hr1, T', hk1, hb1⟩ := T.app1 (cap := ca) (HA.out.below I.bl) hm; have T := T'; clear T'; rw [if_pos (by rfl)]; refine Qag _ _ _ (by rfl) _ _ _ (by rfl) (by rfl) hr1 ?_; have I := I.kept hk1 hb1; clear hr1 hk1 hb1
    refine hK.out _ _ I.s4 fun hH => ?_; clear hK K; try simp only [zX,zY]
    refine zR2 9 10 (fun K hK => ?_) (fun K hK => ?_)
    focus
     simp only [zG]
     obtain ⟨x2, y2, w2, hr2, T', hk2, hb2⟩ := T.app2 (cap := cb) (HB.out.below I.bl) hb; have T := T'; clear T'; rw [if_pos (by rfl)]; refine Qag _ _ _ (by rfl) _ _ _ (by rfl) (by rfl) hr2 ?_; have I := I.kept hk2 hb2; clear hr2 hk2 hb2
     refine hK.out _ _ I.s4 fun hH => ?_; clear hK K; try simp only [zX,zY]
     refine zR1 10 (fun K hK => ?_)
     simp only [zG]
     go_simp
     have T := T.new3 (g := w2.heap.size) (by simp); have I := I.alloc (.cells #[] 3)
    rotate_left
    focus
     simp only [zG]
     go_simp
     have T := T.new3 (g := w1.heap.size) (by simp); have I := I.alloc (.cells #[] 3)
     refine hK.out _ _ I.s4 fun hH => ?_; clear hK K; try simp only [zX,zY]
     refine zR1 9 (fun K hK => ?_)
     simp only [zG]
     obtain ⟨x2, y2, w2, hr2, T', hk2, hb2⟩ := T.app2 (cap := cb) (HB.out.below I.bl) hb; have T := T'; clear T'; rw [if_pos (by rfl)]; refine Qag _ _ _ (by rfl) _ _ _ (by rfl) (by rfl) hr2 ?_; have I := I.kept hk2 hb2; clear hr2 hk2 hb2
   rotate_left 2
   focus
    simp only [zG]
    go_simp
    have T := T.new3 (g := w.heap.size + 1 + 1 + 1 + 1) (by simp); have I := I.alloc (.cells #[] 3)
    refine hK.out _ _ I.s4 fun hH => ?_; clear hK K; try simp only [zX,zY]
    refine zR1 5 (fun K hK => ?_)
    simp only [zG]
    obtain ⟨x1, y1, w1, hr1, T', hk1, hb1⟩ := T.app1 (cap := ca) (HA.out.below I.bl) hm; have T := T'; clear T'; rw [if_pos (by rfl)]; refine Qag _ _ _ (by rfl) _ _ _ (by rfl) (by rfl) hr1 ?_; have I := I.kept hk1 hb1; clear hr1 hk1 hb1
    refine hK.out _ _ I.s4 fun hH => ?_; clear hK K; try simp only [zX,zY]
    refine zR1 9 (fun K hK => ?_)
    simp only [zG]
    obtain ⟨x2, y2, w2, hr2, T', hk2, hb2⟩ := T.app2 (cap := cb) (HB.out.below I.bl) hb; have T := T'; clear T'; rw [if_pos (by rfl)]; refine Qag _ _ _ (by rfl) _ _ _ (by rfl) (by rfl) hr2 ?_; have I := I.kept hk2 hb2; clear hr2 hk2 hb2
  rotate_left 3
  focus
   simp only [zG]
   go_simp
   have T := T.new3 (g := w.heap.size + 1 + 1 + 1) (by simp); have I := I.alloc (.cells #[] 3)
   refine hK.out _ _ I.s4 fun hH => ?_; clear hK K; try simp only [zX,zY]
   refine zR2 5 6 (fun K hK => ?_) (fun K hK => ?_)
   focus
    simp only [zG]
    obtain ⟨x1, y1, w1, hr1, T', hk1, hb1⟩ := T.app1 (cap := ca) (HA.out.below I.bl) hm; have T := T'; clear T'; rw [if_pos (by rfl)]; refine Qag _ _ _ (by rfl) _ _ _ (by rfl) (by rfl) hr1 ?_; have I := I.kept hk1 hb1; clear hr1 hk1 hb1
    refine hK.out _ _ I.s4 fun hH => ?_; clear hK K; try simp only [zX,zY]
    refine zR1 6 (fun K hK => ?_)
    simp only [zG]
    go_simp
    have T := T.new2 (g := w1.heap.size) (by simp); have I := I.alloc (.cells #[] 3)
    refine hK.out _ _ I.s4 fun hH => ?_; clear hK K; try simp only [zX,zY]
    refine zR1 9 (fun K hK => ?_)
    simp only [zG]
    obtain ⟨x2, y2, w2, hr2, T', hk2, hb2⟩ := T.app2 (cap := cb) (HB.out.below I.bl) hb; have T := T'; clear T'; rw [if_pos (by rfl)]; refine Qag _ _ _ (by rfl) _ _ _ (by rfl) (by rfl) hr2 ?_; have I := I.kept hk2 hb2; clear hr2 hk2 hb2
   rotate_left
   focus
    simp only [zG]
    go_simp
    have T := T.new2 (g := w.heap.size + 1 + 1 + 1 + 1) (by simp); have I := I.alloc (.cells #[] 3)
    refine hK.out _ _ I.s4 fun hH => ?_; clear hK K; try simp only [zX,zY]
    refine zR1 5 (fun K hK => ?_)
    simp only [zG]
    obtain ⟨x1, y1, w1, hr1, T', hk1, hb1⟩ := T.app1 (cap := ca) (HA.out.below I.bl) hm; have T := T'; clear T'; rw [if_pos (by rfl)]; refine Qag _ _ _ (by rfl) _ _ _ (by rfl) (by rfl) hr1 ?_; have I := I.kept hk1 hb1; clear hr1 hk1 hb1
    refine hK.out _ _ I.s4 fun hH => ?_; clear hK K; try simp only [zX,zY]
    refine zR1 9 (fun K hK => ?_)
    simp only [zG]
    obtain ⟨x2, y2, w2, hr2, T', hk2, hb2⟩ := T.app2 (cap := cb) (HB.out.below I.bl) hb; have T := T'; clear T'; rw [if_pos (by rfl)]; refine Qag _ _ _ (by rfl) _ _ _ (by rfl) (by rfl) hr2 ?_; have I := I.kept hk2 hb2; clear hr2 hk2 hb2
 rotate_left 8
 focus
  simp only [zG]
  go_simp
  have T := T.new2 (g := w.heap.size + 1 + 1) (by simp); have I := I.alloc (.cells #[] 3)
  refine hK.out _ _ I.s4 fun hH => ?_; clear hK K; try simp only [zX,zY]
  refine zR2 2 10 (fun K hK => ?_) (fun K hK => ?_)
  focus
   simp only [zG]
   go_simp
   have T := T.new1 (g := w.heap.size + 1 + 1 + 1) (by simp); have I := I.alloc (.cells #[] 3)
   refine hK.out _ _ I.s4 fun hH => ?_; clear hK K; try simp only [zX,zY]
   refine zR2 5 10 (fun K hK => ?_) (fun K hK => ?_)
   focus
    simp only [zG]
    obtain ⟨x1, y1, w1, hr1, T', hk1, hb1⟩ := T.app1 (cap := ca) (HA.out.below I.bl) hm; have T := T'; clear T'; rw [if_pos (by rfl)]; refine Qag _ _ _ (by rfl) _ _ _ (by rfl) (by rfl) hr1 ?_; have I := I.kept hk1 hb1; clear hr1 hk1 hb1
    refine hK.out _ _ I.s4 fun hH => ?_; clear hK K; try simp only [zX,zY]
    refine zR2 9 10 (fun K hK => ?_) (fun K hK => ?_)
    focus
     simp only [zG]
     obtain ⟨x2, y2, w2, hr2, T', hk2, hb2⟩ := T.app2 (cap := cb) (HB.out.below I.bl) hb; have T := T'; clear T'; rw [if_pos (by rfl)]; refine Qag _ _ _ (by rfl) _ _ _ (by rfl) (by rfl) hr2 ?_; have I := I.kept hk2 hb2; clear hr2 hk2 hb2
     refine hK.out _ _ I.s4 fun hH => ?_; clear hK K; try simp only [zX,zY]
     refine zR1 10 (fun K hK => ?_)
     simp only [zG]
     go_simp
     have T := T.new3 (g := w2.heap.size) (by simp); have I := I.alloc (.cells #[] 3)
    rotate_left
    focus
     simp only [zG]
     go_simp
     have T := T.new3 (g := w1.heap.size) (by simp); have I := I.alloc (.cells #[] 3)
     refine hK.out _ _ I.s4 fun hH => ?_; clear hK K; try simp only [zX,zY]
     refine zR1 9 (fun K hK => ?_)
     simp only [zG]
     obtain ⟨x2, y2, w2, hr2, T', hk2, hb2⟩ := T.app2 (cap := cb) (HB.out.below I.bl) hb; have T := T'; clear T'; rw [if_pos (by rfl)]; refine Qag _ _ _ (by rfl) _ _ _ (by rfl) (by rfl) hr2 ?_; have I := I.kept hk2 hb2; clear hr2 hk2 hb2
   rotate_left 2
   focus
    simp only [zG]
    go_simp
    have T := T.new3 (g := w.heap.size + 1 + 1 + 1 + 1) (by simp); have I := I.alloc (.cells #[] 3)
    refine hK.out _ _ I.s4 fun hH => ?_; clear hK K; try simp only [zX,zY]
    refine zR1 5 (fun K hK => ?_)
    simp only [zG]
    obtain ⟨x1, y1, w1, hr1, T', hk1, hb1⟩ := T.app1 (cap := ca) (HA.out.below I.bl) hm; have T := T'; clear T'; rw [if_pos (by rfl)]; refine Qag _ _ _ (by rfl) _ _ _ (by rfl) (by rfl) hr1 ?_; have I := I.kept hk1 hb1; clear hr1 hk1 hb1
    refine hK.out _ _ I.s4 fun hH => ?_; clear hK K; try simp only [zX,zY]
    refine zR1 9 (fun K hK => ?_)
    simp only [zG]
    obtain ⟨x2, y2, w2, hr2, T', hk2, hb2⟩ := T.app2 (cap := cb) (HB.out.below I.bl) hb; have T := T'; clear T'; rw [if_pos (by rfl)]; refine Qag _ _ _ (by rfl) _ _ _ (by rfl) (by rfl) hr2 ?_; have I := I.kept hk2 hb2; clear hr2 hk2 hb2
  rotate_left 3
  focus
   simp only [zG]
   go_simp
   have T := T.new3 (g := w.heap.size + 1 + 1 + 1) (by simp); have I := I.alloc (.cells #[] 3)
   refine hK.out _ _ I.s4 fun hH => ?_; clear hK K; try simp only [zX,zY]
   refine zR1 2 (fun K hK => ?_)
   simp only [zG]
   go_simp
   have T := T.new1 (g := w.heap.size + 1 + 1 + 1 + 1) (by simp); have I := I.alloc (.cells #[] 3)
   refine hK.out _ _ I.s4 fun hH => ?_; clear hK K; try simp only [zX,zY]
   refine zR1 5 (fun K hK => ?_)
   simp only [zG]
   obtain ⟨x1, y1, w1, hr1, T', hk1, hb1⟩ := T.app1 (cap := ca) (HA.out.below I.bl) hm; have T := T'; clear T'; rw [if_pos (by rfl)]; refine Qag _ _ _ (by rfl) _ _ _ (by rfl) (by rfl) hr1 ?_; have I := I.kept hk1 hb1; clear hr1 hk1 hb1
   refine hK.out _ _ I.s4 fun hH => ?_; clear hK K; try simp only [zX,zY]
   refine zR1 9 (fun K hK => ?_)
   simp only [zG]
   obtain ⟨x2, y2, w2, hr2, T', hk2, hb2⟩ := T.app2 (cap := cb) (HB.out.below I.bl) hb; have T := T'; clear T'; rw [if_pos (by rfl)]; refine Qag _ _ _ (by rfl) _ _ _ (by rfl) (by rfl) hr2 ?_; have I := I.kept hk2 hb2; clear hr2 hk2 hb2
 rotate_left 4
 focus
  simp only [zG]
  go_simp
  have T := T.new3 (g := w.heap.size + 1 + 1) (by simp); have I := I.alloc (.cells #[] 3)
  refine hK.out _ _ I.s4 fun hH => ?_; clear hK K; try simp only [zX,zY]
  refine zR2 2 6 (fun K hK => ?_) (fun K hK => ?_)
  focus
   simp only [zG]
   go_simp
   have T := T.new1 (g := w.heap.size + 1 + 1 + 1) (by simp); have I := I.alloc (.cells #[] 3)
   refine hK.out _ _ I.s4 fun hH => ?_; clear hK K; try simp only [zX,zY]
   refine zR2 5 6 (fun K hK => ?_) (fun K hK => ?_)
   focus
    simp only [zG]
    obtain ⟨x1, y1, w1, hr1, T', hk1, hb1⟩ := T.app1 (cap := ca) (HA.out.below I.bl) hm; have T := T'; clear T'; rw [if_pos (by rfl)]; refine Qag _ _ _ (by rfl) _ _ _ (by rfl) (by rfl) hr1 ?_; have I := I.kept hk1 hb1; clear hr1 hk1 hb1
    refine hK.out _ _ I.s4 fun hH => ?_; clear hK K; try simp only [zX,zY]
    refine zR1 6 (fun K hK => ?_)
    simp only [zG]
    go_simp
    have T := T.new2 (g := w1.heap.size) (by simp); have I := I.alloc (.cells #[] 3)
    refine hK.out _ _ I.s4 fun hH => ?_; clear hK K; try simp only [zX,zY]
    refine zR1 9 (fun K hK => ?_)
    simp only [zG]
    obtain ⟨x2, y2, w2, hr2, T', hk2, hb2⟩ := T.app2 (cap := cb) (HB.out.below I.bl) hb; have T := T'; clear T'; rw [if_pos (by rfl)]; refine Qag _ _ _ (by rfl) _ _ _ (by rfl) (by rfl) hr2 ?_; have I := I.kept hk2 hb2; clear hr2 hk2 hb2
   rotate_left
   focus
    simp only [zG]
    go_simp
    have T := T.new2 (g := w.heap.size + 1 + 1 + 1 + 1) (by simp); have I := I.alloc (.cells #[] 3)
    refine hK.out _ _ I.s4 fun hH => ?_; clear hK K; try simp only [zX,zY]
    refine zR1 5 (fun K hK => ?_)
    simp only [zG]
    obtain ⟨x1, y1, w1, hr1, T', hk1, hb1⟩ := T.app1 (cap := ca) (HA.out.below I.bl) hm; have T := T'; clear T'; rw [if_pos (by rfl)]; refine Qag _ _ _ (by rfl) _ _ _ (by rfl) (by rfl) hr1 ?_; have I := I.kept hk1 hb1; clear hr1 hk1 hb1
    refine hK.out _ _ I.s4 fun hH => ?_; clear hK K; try simp only [zX,zY]
    refine zR1 9 (fun K hK => ?_)
    simp only [zG]
    obtain ⟨x2, y2, w2, hr2, T', hk2, hb2⟩ := T.app2 (cap := cb) (HB.out.below I.bl) hb; have T := T'; clear T'; rw [if_pos (by rfl)]; refine Qag _ _ _ (by rfl) _ _ _ (by rfl) (by rfl) hr2 ?_; have I := I.kept hk2 hb2; clear hr2 hk2 hb2
  rotate_left 2
  focus
   simp only [zG]
   go_simp
   have T := T.new2 (g := w.heap.size + 1 + 1 + 1) (by simp); have I := I.alloc (.cells #[] 3)
   refine hK.out _ _ I.s4 fun hH => ?_; clear hK K; try simp only [zX,zY]
   refine zR1 2 (fun K hK => ?_)
   simp only [zG]
   go_simp
   have T := T.new1 (g := w.heap.size + 1 + 1 + 1 + 1) (by simp); have I := I.alloc (.cells #[] 3)
   refine hK.out _ _ I.s4 fun hH => ?_; clear hK K; try simp only [zX,zY]
   refine zR1 5 (fun K hK => ?_)
   simp only [zG]
   obtain ⟨x1, y1, w1, hr1, T', hk1, hb1⟩ := T.app1 (cap := ca) (HA.out.below I.bl) hm; have T := T'; clear T'; rw [if_pos (by rfl)]; refine Qag _ _ _ (by rfl) _ _ _ (by rfl) (by rfl) hr1 ?_; have I := I.kept hk1 hb1; clear hr1 hk1 hb1
   refine hK.out _ _ I.s4 fun hH => ?_; clear hK K; try simp only [zX,zY]
   refine zR1 9 (fun K hK => ?_)
   simp only [zG]
   obtain ⟨x2, y2, w2, hr2, T', hk2, hb2⟩ := T.app2 (cap := cb) (HB.out.below I.bl) hb; have T := T'; clear T'; rw [if_pos (by rfl)]; refine Qag _ _ _ (by rfl) _ _ _ (by rfl) (by rfl) hr2 ?_; have I := I.kept hk2 hb2; clear hr2 hk2 hb2
 all_goals
  refine hK.out _ _ I.s4 fun hH => ?_; clear hK K; try simp only [zX,zY]
  refine zR1 13 (fun K hK => ?_)
  simp only [zG]
  obtain ⟨x3, y3, w3, hr3, T', hk3, hb3⟩ := T.app3 (cap := cc) (HC.out.below I.bl) ho; have T := T'; clear T'; rw [if_pos (by rfl)]; refine Qag _ _ _ (by rfl) _ _ _ (by rfl) (by rfl) hr3 ?_; have I := I.kept hk3 hb3; clear hr3 hk3 hb3; obtain ⟨r0, r1, r2, r3⟩ := I.r.row4; have f0 := I.r.thaw 0; have f1 := I.r.thaw 1; have f2 := I.r.thaw 2; have f3 := I.r.thaw 3
  refine hK.out _ _ I.s4 fun hH => ?_; clear hK K; try simp only [zX,zY]
  refine zt1 14 ?_; refine ztn (h := ?_); try simp only [zX,zY]
  refine zte ?_
  refine zR1 15 (fun K hK => ?_)
  simp only [zG]
  go_simp
  refine hK.out _ _ ((I.g.off (Qcb w3 (w.heap.size + 1) (.int .i64 gen) (.slice x1 m.length y1) (.slice x2 b.length y2) (.slice x3 o.length y3)) (by simp)).row4) fun hH => ?_; clear hK K; try simp only [zX,zY]
  refine zdn ?_
  generalize w3 = W at *
  go_wp2
  have k0 : Blk (W.setCell ⟨w.heap.size + 1, 0, none⟩ (.int .i64 gen)) (w.heap.size + 1) 128 (Qak gen none 0 0 none 0 0 none 0 0) := I.r.setAt 0 _
  have s0 : (W.setCell ⟨w.heap.size + 1, 0, none⟩ (.int .i64 gen)).cell? ⟨w.heap.size + 1, 0, none⟩ = some (.int .i64 gen) := k0.row4.1
  have k1 : Blk ((W.setCell ⟨w.heap.size + 1, 0, none⟩ (.int .i64 gen)).setCell ⟨w.heap.size + 1, 1, none⟩ (.slice x1 m.length y1)) (w.heap.size + 1) 128 (Qak gen x1 m.length y1 none 0 0 none 0 0) := k0.setAt 1 _
  have s1 : ((W.setCell ⟨w.heap.size + 1, 0, none⟩ (.int .i64 gen)).setCell ⟨w.heap.size + 1, 1, none⟩ (.slice x1 m.length y1)).cell? ⟨w.heap.size + 1, 1, none⟩ = some (.slice x1 m.length y1) := k1.row4.2.1
  have k2 : Blk (((W.setCell ⟨w.heap.size + 1, 0, none⟩ (.int .i64 gen)).setCell ⟨w.heap.size + 1, 1, none⟩ (.slice x1 m.length y1)).setCell ⟨w.heap.size + 1, 2, none⟩ (.slice x2 b.length y2)) (w.heap.size + 1) 128 (Qak gen x1 m.length y1 x2 b.length y2 none 0 0) := k1.setAt 2 _
  have s2 : (((W.setCell ⟨w.heap.size + 1, 0, none⟩ (.int .i64 gen)).setCell ⟨w.heap.size + 1, 1, none⟩ (.slice x1 m.length y1)).setCell ⟨w.heap.size + 1, 2, none⟩ (.slice x2 b.length y2)).cell? ⟨w.heap.size + 1, 2, none⟩ = some (.slice x2 b.length y2) := k2.row4.2.2.1
  have k3 : Blk ((((W.setCell ⟨w.heap.size + 1, 0, none⟩ (.int .i64 gen)).setCell ⟨w.heap.size + 1, 1, none⟩ (.slice x1 m.length y1)).setCell ⟨w.heap.size + 1, 2, none⟩ (.slice x2 b.length y2)).setCell ⟨w.heap.size + 1, 3, none⟩ (.slice x3 o.length y3)) (w.heap.size + 1) 128 (Qak gen x1 m.length y1 x2 b.length y2 x3 o.length y3) := k2.setAt 3 _
  have s3 : ((((W.setCell ⟨w.heap.size + 1, 0, none⟩ (.int .i64 gen)).setCell ⟨w.heap.size + 1, 1, none⟩ (.slice x1 m.length y1)).setCell ⟨w.heap.size + 1, 2, none⟩ (.slice x2 b.length y2)).setCell ⟨w.heap.size + 1, 3, none⟩ (.slice x3 o.length y3)).cell? ⟨w.heap.size + 1, 3, none⟩ = some (.slice x3 o.length y3) := k3.row4.2.2.2
  refine bodyPost_ret (v := .agg (Qak gen x1 m.length y1 x2 b.length y2 x3 o.length y3)) (by simp [results, Tryz.results90, go_sem, s0, s1, s2, s3]) rfl ?_
  exact T.told I
structure Wo (w W : World) (gen : Int) (vm vb vo : Value) (P : Nat) (x1 x2 x3 : Option Addr) (y1 y2 y3 : Nat) (l1 l2 l3 : List Int) : Prop where
  i : Wi w W gen vm vb vo
  p : Blk W P 128 (Qak gen x1 l1.length y1 x2 l2.length y2 x3 l3.length y3)
  f : ∃ F, Gp W x1 x2 x3 l1 l2 l3 F /\ ∀ x ∈ F, w.heap.size <= x /\ x ≠ P /\ x ≠ w.heap.size + 1
  hp : w.heap.size + 1 < P
  k1 : l1.length <= y1 /\ y1 <= 9223372036854775807
  k2 : l2.length <= y2 /\ y2 <= 9223372036854775807
section
variable {w W W3 : World} {gen : Int} {vm vb vo : Value} {P : Nat} {x1 x2 x3 : Option Addr} {y1 y2 y3 : Nat} {l1 l2 l3 : List Int}
theorem Wo.rep1 (h : Wo w W gen vm vb vo P x1 x2 x3 y1 y2 y3 l1 l2 l3) (hb : Below W.heap.size W W3) {a : Option Addr} {n c : Nat} {l : List Int} (ho : W3.ownsRow W.heap.size 3 1 (.slice a n c) n (flat l)) (hn : n = l.length) :
 Wo w (W3.setCell ⟨P, 1, none⟩ (.slice a l.length c)) gen vm vb vo P a x2 x3 c y2 y3 l l2 l3 := by
 subst hn
 obtain ⟨F, ⟨F1, F2, F3, rfl, s1, s2, s3, hnd⟩, hF⟩ := h.f
 obtain ⟨_, G, sG, kG⟩ := Sl.of_fresh (Qb6 (α := Int) rfl ho)
 have k : Off [P] W3 (W3.setCell ⟨P, 1, none⟩ (.slice a l.length c)) := Qbm (Off.refl _ _) P 1 _ (by simp)
 have hPl := h.p.lt
 have hs := h.i.bl.size
 have hr := h.i.r.lt
 refine ⟨(h.i.below hb).off k h.hp, (h.p.below hb h.p.lt).setAt 1 _, ⟨G ++ (F2 ++ F3), ⟨G, F2, F3, rfl, sG.off k (fun x hx => by have := kG x hx; simp; omega), (s2.below hb).off k (fun x hx => by simpa using (hF x (by simp [hx])).2.1), (s3.below hb).off k (fun x hx => by simpa using (hF x (by simp [hx])).2.1), ?_⟩, ?_⟩, h.hp, Qfd ho, h.k2⟩
 . rw [List.nodup_append] at hnd ⊢
   refine ⟨sG.nodup, hnd.2.1, fun x hx y hy e => ?_⟩
   have := kG x hx
   rcases List.mem_append.1 hy with hy | hy
   . have := s2.lt y hy; omega
   . have := s3.lt y hy; omega
 . intro x hx
   rcases List.mem_append.1 hx with e | e
   . have := kG x e; exact ⟨by omega, by omega, by omega⟩
   . exact hF x (List.mem_append_right _ e)
theorem Wo.rep2 (h : Wo w W gen vm vb vo P x1 x2 x3 y1 y2 y3 l1 l2 l3) (hb : Below W.heap.size W W3) {a : Option Addr} {n c : Nat} {l : List Int} (ho : W3.ownsRow W.heap.size 3 1 (.slice a n c) n (flat l)) (hn : n = l.length) :
 Wo w (W3.setCell ⟨P, 2, none⟩ (.slice a l.length c)) gen vm vb vo P x1 a x3 y1 c y3 l1 l l3 := by
 subst hn
 obtain ⟨F, ⟨F1, F2, F3, rfl, s1, s2, s3, hnd⟩, hF⟩ := h.f
 obtain ⟨_, G, sG, kG⟩ := Sl.of_fresh (Qb6 (α := Int) rfl ho)
 have k : Off [P] W3 (W3.setCell ⟨P, 2, none⟩ (.slice a l.length c)) := Qbm (Off.refl _ _) P 2 _ (by simp)
 have hPl := h.p.lt
 have hs := h.i.bl.size
 have hr := h.i.r.lt
 refine ⟨(h.i.below hb).off k h.hp, (h.p.below hb h.p.lt).setAt 2 _, ⟨F1 ++ (G ++ F3), ⟨F1, G, F3, rfl, (s1.below hb).off k (fun x hx => by simpa using (hF x (by simp [hx])).2.1), sG.off k (fun x hx => by have := kG x hx; simp; omega), (s3.below hb).off k (fun x hx => by simpa using (hF x (by simp [hx])).2.1), ?_⟩, ?_⟩, h.hp, h.k1, Qfd ho⟩
 . rw [List.nodup_append, List.nodup_append] at hnd ⊢
   obtain ⟨n1, ⟨n2, n3, d23⟩, d1⟩ := hnd
   refine ⟨n1, ⟨sG.nodup, n3, fun x hx y hy e => ?_⟩, fun x hx y hy e => ?_⟩
   . have := kG x hx; have := s3.lt y hy; omega
   . rcases List.mem_append.1 hy with hy | hy
     . have := kG y hy; have := s1.lt x hx; omega
     . exact d1 x hx y (List.mem_append_right _ hy) e
 . intro x hx
   simp only [List.mem_append] at hx
   rcases hx with e | e | e
   . exact hF x (by simp [e])
   . have := kG x e; exact ⟨by omega, by omega, by omega⟩
   . exact hF x (by simp [e])
theorem Wo.told (h : Wo w W gen vm vb vo P x1 x2 x3 y1 y2 y3 l1 l2 l3) :
 ToldC w (putG W (w.heap.size + 1) (.int .i64 gen) (.slice x1 l1.length y1) (.slice x2 l2.length y2) (.slice x3 l3.length y3)) (.returned (.agg (Qak gen x1 l1.length y1 x2 l2.length y2 x3 l3.length y3))) gen l1 l2 l3 := by
 obtain ⟨F, hG, hF⟩ := h.f
 exact ⟨x1, x2, x3, y1, y2, y3, F, rfl, h.i.bl.trans ((Qcb W (w.heap.size + 1) _ _ _ _).toBelow (by simp) h.i.bl.size), hG.off (Qcb W (w.heap.size + 1) _ _ _ _) (fun x hx => by simpa using (hF x hx).2.2), fun x hx => (hF x hx).1, h.k1, h.k2⟩
theorem Wo.drew (h : Wo w W gen vm vb vo P x1 x2 x3 y1 y2 y3 l1 l2 l3) : Wo w W.drew gen vm vb vo P x1 x2 x3 y1 y2 y3 l1 l2 l3 := by
 obtain ⟨F, hG, hF⟩ := h.f
 exact ⟨h.i.below (Below.drew (Below.refl _ _)), h.p.below (Below.drew (Below.refl _ _)) h.p.lt, ⟨F, hG.below (Below.drew (Below.refl _ _)), hF⟩, h.hp, h.k1, h.k2⟩
end
theorem Qgi (W : World) (A D : Option Addr) (c d : Nat) (l1 l2 : List Int) (h1 : l1.length <= 1048576) (h2 : l2.length <= 1048576) (hA : At W A l1) (hD : At W D l2) :
 ∃ x y w2 x' y' w3, (Builtin.append_ #[40, 40] 40 #[.slice (some ⟨W.heap.size, 0, none⟩) 0 0, .slice A l1.length c]).run Tryz.prog (W.alloc (.cells #[] 3)) = .ok (.slice x l1.length y) w2 /\ (Builtin.append_ #[40, 40] 40 #[.slice x l1.length y, .slice D l2.length d]).run Tryz.prog w2 = .ok (.slice x' (l1 ++ l2).length y') w3 /\
  Below W.heap.size W w2 /\ Below W.heap.size W w3 /\ w3.ownsRow W.heap.size 3 1 (.slice x' (l1 ++ l2).length y') (l1 ++ l2).length (flat (l1 ++ l2)) := by
 have b0 : Below W.heap.size W (W.alloc (.cells #[] 3)) := Qaf (Below.refl _ _) _
 have o0 : (W.alloc (.cells #[] 3)).ownsRow W.heap.size 3 1 (.slice (some ⟨W.heap.size, 0, none⟩) 0 0) ([] : List Int).length (flat ([] : List Int)) := World.ownsRow_made W #[] 0 (Nat.le_refl _) (by simp [maxLen]) rfl
 obtain ⟨v, w2, hr, ho, hg, hat⟩ := Qbd (P := Tryz.prog) Tryz.underlying40 Qdb rfl (by decide) (by decide) W.heap.size _ ([] : List Int) l1 A c _ b0.size o0 (hA.below b0) (by simp; omega)
 simp only [List.length_nil, Nat.zero_add, List.nil_append] at ho
 obtain ⟨x, y, rfl, _⟩ := Qao ho
 have b2 : Below W.heap.size W w2 := b0.grown hg b0.size (fun k e => (o0.lt k e).1)
 obtain ⟨v, w3, hr3, ho3, hg3, _⟩ := Qbd (P := Tryz.prog) Tryz.underlying40 Qdb rfl (by decide) (by decide) W.heap.size _ l1 l2 D d w2 b2.size ho (hD.below b2) (by omega)
 have b3 : Below W.heap.size W w3 := b2.grown hg3 b2.size (fun k e => (ho.lt k e).1)
 rw [← List.length_append] at ho3
 obtain ⟨x', y', rfl, _⟩ := Qao ho3
 exact ⟨x, y, w2, x', y', w3, hr, hr3, b2, b3, ho3⟩
theorem Qd6 {w : World} {A : Option Addr} {l : List Int} (h : At w A l) (n : Nat) : At w A (l.take n) := by
 rcases h with rfl | ⟨b, o, rfl, hb, hi⟩
 . exact .inl (by simp)
 . refine .inr ⟨b, o, rfl, hb, fun j v hv => hi j v ?_⟩
   have hl := List.take_append_drop n l
   rw [← hl, Qck]
   have hj := (List.getElem?_eq_some_iff.1 hv).1
   rw [List.getElem?_append_left hj]; exact hv
theorem Qiv {w : World} {b o c n : Nat} {l : List Int} (hb : b < w.heap.size) (hi : In w b o l) (hc : l.length <= c) : At w (if c = n then some ⟨b, o, none⟩ else some ⟨b, o + n, none⟩) (l.drop n) := by
 by_cases e : c = n
 . exact .inl (List.drop_eq_nil_of_le (by omega))
 . rw [if_neg e]
   have h2 := In.drop n hi
   have e1 : o + n * Cel.k Int = o + n := by show o + n * 1 = _; omega
   rw [e1] at h2
   exact .inr ⟨b, o + n, rfl, hb, h2⟩
theorem Qdt (l : List Int) (n : Nat) : l.take n ++ l.drop (n + 1) = l.eraseIdx n := (List.eraseIdx_eq_take_drop_succ l n).symm
theorem Qda (gen : Int) (A B C : Option Addr) (ca cb cc : Nat) (m b o : List Int) (hm : m.length <= 1048576) (hb : b.length <= 1048576) (ho : o.length <= 1048576) (hca : m.length <= ca /\ ca <= 9223372036854775807) (hcb : b.length <= cb /\ cb <= 9223372036854775807) (i : Nat) (hi : i < m.length) (w : World) (hA : At w A m) (hB : At w B b) (hC : At w C o) :
 Calls Tryz.prog 95 #[.agg (Qak gen A m.length ca B b.length cb C o.length cc), .int .i64 (i : Int)] w fun e w' => ToldC w w' e gen (m.eraseIdx i) (b.eraseIdx i) o := by
 have HA := hidP hA
 have HB := hidP hB
 have HC := hidP hC
 obtain ⟨ca1, ca2⟩ := hca
 obtain ⟨cb1, cb2⟩ := hcb
 clear hA hB hC
 go_enter Tryz.func95, Tryz.ntmps95
 go_wp2_with fail
 have I0 : Wi w ((w.alloc (.cells (Qak gen A m.length ca B b.length cb C o.length cc) 128)).alloc (.cells Qb0 128)) gen (.slice A m.length ca) (.slice B b.length cb) (.slice C o.length cc) := ⟨by repeat (first | exact Below.refl _ _ | assumption | refine via0 (by assumption) ?_ | refine Below.drew ?_ | refine Qaf ?_ _), (Blk.new w 128 (Qak gen A m.length ca B b.length cb C o.length cc)).alloc _, by have := Blk.new (w.alloc (.cells (Qak gen A m.length ca B b.length cb C o.length cc) 128)) 128 Qb0; rw [World.size_alloc] at this; exact this⟩
 refine (Qct gen A B C ca cb cc m b o hm hb ho _ (HA.out.below I0.bl) (HB.out.below I0.bl) (HC.out.below I0.bl)).mono ?_
 rintro e w1 ⟨a1, a2, a3, c1, c2, c3, F, rfl, g1, hG, hF, k1, k2⟩
 have I1 := I0.below g1
 have J1 : Wo w (w1.alloc (.cells (Qak gen a1 m.length c1 a2 b.length c2 a3 o.length c3) 128)) gen (.slice A m.length ca) (.slice B b.length cb) (.slice C o.length cc) w1.heap.size a1 a2 a3 c1 c2 c3 m b o :=
  ⟨I1.alloc _, Blk.new w1 128 _, ⟨F, hG.alloc _, fun x hx => by have := hF x hx; have := hG.lt x hx; simp at *; omega⟩, I1.r.lt, k1, k2⟩
 have hlt1 : i < m.length := hi
 obtain ⟨i1, hx1⟩ : ∃ k, k = i + 1 := ⟨_, rfl⟩
 have hwr : IntKind.i64.wrap ((i : Int) + 1) = (i1 : Int) := by rw [IntKind.wrap_i64]; omega
 go_wp2_with fail
 generalize w1.alloc (.cells (Qak gen a1 m.length c1 a2 b.length c2 a3 o.length c3) 128) = W1 at *
 generalize w1.heap.size = P at *
 obtain ⟨bA1, oA1, rfl, hbs1, hin1⟩ : ∃ b' o', A = some ⟨b', o', none⟩ /\ b' < w.heap.size /\ In w b' o' m := by
  rcases HA.out with h | h
  . subst h; simp at hlt1
  . exact h
 have hBl1 := J1.drew.i.bl
 have hT1 := Qd6 (HA.out.below hBl1) i
 have hD1 := Qiv (n := i1) (c := ca) (Nat.lt_of_lt_of_le hbs1 hBl1.size) (hin1.below hbs1 hBl1) (by omega)
 obtain ⟨x1, y1, wa1, x'1, y'1, wb1, hra1, hrb1, ba1, bb1, ob1⟩ := Qgi W1.drew _ _ ca (ca - i1) (m.take i) (m.drop i1) (by simp; omega) (by simp; omega) hT1 hD1
 rw [hx1, Qdt] at ob1
 have hee : (m.take i ++ m.drop i1) = m.eraseIdx i := by rw [hx1, Qdt]
 rw [hee] at hrb1
 have e11 : (m.take i).length = i := by simp; omega
 have e21 : (m.drop i1).length = m.length - i1 := List.length_drop
 rw [e11] at hra1 hrb1
 rw [e21] at hrb1
 obtain ⟨n1, hn1⟩ : ∃ k, k = (m.eraseIdx i).length := ⟨_, rfl⟩
 rw [← hn1] at hrb1 ob1
 have K1 := J1.drew.rep1 bb1 ob1 hn1
 rw [← hn1] at K1
 have V1 := J1.drew.p.below bb1 J1.drew.p.lt
 obtain ⟨t0, t1, t2, t3⟩ := V1.row4
 have th := V1.thaw 1
 have S0 := J1.drew.i.s4.2.1
 have Sa := (J1.i.alloc (.cells #[] 3)).s4.2.1
 have Sb := (J1.drew.i.below ba1).s4.2.1
 have Sc := (J1.drew.i.below bb1).s4.2.1
 have Sd := K1.i.s4.2.1
 have hi1 : ((i1 : Nat) : Int) <= (ca : Int) := by omega
 have hi2 : ((i1 : Nat) : Int) <= (m.length : Int) := by omega
 have hi3 : ((i : Nat) : Int) <= (ca : Int) := by omega
 have hi4 : (m.length : Int) <= (ca : Int) := by omega
 have Hx := hidP hx1
 clear hee
 have Hlt := hidP hlt1
 have HK1 := hidP K1
 have Hn1 := hidP hn1
 clear hn1
 have HJ1 := hidP J1
 clear K1 hT1 hD1 ob1 V1
 by_cases hcj : i1 = ca
 . subst hcj
   rw [if_pos rfl, Nat.sub_self, show m.length - i1 = 0 by omega] at hrb1
   clear hx1
   refine wp_region_noPanic ?_
   refine wp_region_held_drew (S := fun (w' : World) => w'.cell? ⟨w.heap.size, 1, none⟩ = some (.slice (some ⟨bA1, oA1, none⟩) m.length i1)) (by kernel_rfl) ?_ (fun hH => ?_)
   . exact S0
   refine ztk [1,2,3,4,6,7,8,9,10] ?_; repeat (refine ztn (h := ?_); try simp only [zX,zY])
   refine zte ?_
   refine zR1 0 (fun K hK => ?_)
   simp only [zG]
   go_simp
   refine hK.out _ _ Sa fun hH => ?_; clear hK K; try simp only [zX,zY]
   refine zR1 5 (fun K hK => ?_)
   simp only [zG]
   rw [if_pos (by rfl)]; refine Qag _ _ _ (by rfl) _ _ _ (by rfl) (by rfl) hra1 ?_
   refine hK.out _ _ Sb fun hH => ?_; clear hK K; try simp only [zX,zY]
   refine zR1 11 (fun K hK => ?_)
   simp only [zG]
   rw [if_pos (by rfl)]; refine Qag _ _ _ (by rfl) _ _ _ (by rfl) (by rfl) hrb1 ?_
   refine hK.out _ _ Sc fun hH => ?_; clear hK K; try simp only [zX,zY]
   refine zt1 12 ?_; refine ztn (h := ?_); try simp only [zX,zY]
   refine zte ?_
   refine zR1 13 (fun K hK => ?_)
   simp only [zG]
   go_simp
   refine hK.out _ _ Sd fun hH => ?_; clear hK K; try simp only [zX,zY]
   refine zdn ?_
   clear S0 Sa Sb Sc Sd t0 t1 t2 t3 th hi1 hi2 hi3 hi4 hra1 hrb1 hin1
   have hx1 := Hx.out
   clear Hx Hlt
   generalize wb1.setCell ⟨P, 1, none⟩ (.slice x'1 n1 y'1) = W1' at *
   have J2 := HK1.out
   obtain ⟨g0, g1, g2, g3⟩ := J2.i.s4
   by_cases hlt2 : i < b.length
   . have hib : (i : Int) < (b.length : Int) := by omega
     go_wp2_with fail
     obtain ⟨bA2, oA2, rfl, hbs2, hin2⟩ : ∃ b' o', B = some ⟨b', o', none⟩ /\ b' < w.heap.size /\ In w b' o' b := by
      rcases HB.out with h | h
      . subst h; simp at hlt2
      . exact h
     have hBl2 := J2.drew.i.bl
     have hT2 := Qd6 (HB.out.below hBl2) i
     have hD2 := Qiv (n := i1) (c := cb) (Nat.lt_of_lt_of_le hbs2 hBl2.size) (hin2.below hbs2 hBl2) (by omega)
     obtain ⟨x2, y2, wa2, x'2, y'2, wb2, hra2, hrb2, ba2, bb2, ob2⟩ := Qgi W1'.drew _ _ cb (cb - i1) (b.take i) (b.drop i1) (by simp; omega) (by simp; omega) hT2 hD2
     rw [hx1, Qdt] at ob2
     have hee : (b.take i ++ b.drop i1) = b.eraseIdx i := by rw [hx1, Qdt]
     rw [hee] at hrb2
     have e12 : (b.take i).length = i := by simp; omega
     have e22 : (b.drop i1).length = b.length - i1 := List.length_drop
     rw [e12] at hra2 hrb2
     rw [e22] at hrb2
     obtain ⟨n2, hn2⟩ : ∃ k, k = (b.eraseIdx i).length := ⟨_, rfl⟩
     rw [← hn2] at hrb2 ob2
     have K2 := J2.drew.rep2 bb2 ob2 hn2
     rw [← hn2] at K2
     have V2 := J2.drew.p.below bb2 J2.drew.p.lt
     obtain ⟨t0, t1, t2, t3⟩ := V2.row4
     have th := V2.thaw 2
     have S0 := J2.drew.i.s4.2.2.1
     have Sa := (J2.i.alloc (.cells #[] 3)).s4.2.2.1
     have Sb := (J2.drew.i.below ba2).s4.2.2.1
     have Sc := (J2.drew.i.below bb2).s4.2.2.1
     have Sd := K2.i.s4.2.2.1
     have hi1 : ((i1 : Nat) : Int) <= (cb : Int) := by omega
     have hi2 : ((i1 : Nat) : Int) <= (b.length : Int) := by omega
     have hi3 : ((i : Nat) : Int) <= (cb : Int) := by omega
     have hi4 : (b.length : Int) <= (cb : Int) := by omega
     have Hx := hidP hx1
     clear hee
     have Hlt := hidP hlt2
     have HK2 := hidP K2
     have Hn2 := hidP hn2
     clear hn2
     have HJ2 := hidP J2
     clear K2 hT2 hD2 ob2 V2
     by_cases hcj : i1 = cb
     focus
      subst hcj
      rw [if_pos rfl, Nat.sub_self, show b.length - i1 = 0 by omega] at hrb2
      clear hx1
      refine wp_region_noPanic ?_
      refine wp_region_held_drew (S := fun (w' : World) => w'.cell? ⟨w.heap.size, 2, none⟩ = some (.slice (some ⟨bA2, oA2, none⟩) b.length i1)) (by kernel_rfl) ?_ (fun hH => ?_)
      . exact S0
      refine ztk [1,2,3,4,6,7,8,9,10] ?_; repeat (refine ztn (h := ?_); try simp only [zX,zY])
      refine zte ?_
      refine zR1 0 (fun K hK => ?_)
      simp only [zG]
      go_simp
      refine hK.out _ _ Sa fun hH => ?_; clear hK K; try simp only [zX,zY]
      refine zR1 5 (fun K hK => ?_)
      simp only [zG]
      rw [if_pos (by rfl)]; refine Qag _ _ _ (by rfl) _ _ _ (by rfl) (by rfl) hra2 ?_
      refine hK.out _ _ Sb fun hH => ?_; clear hK K; try simp only [zX,zY]
      refine zR1 11 (fun K hK => ?_)
      simp only [zG]
      rw [if_pos (by rfl)]; refine Qag _ _ _ (by rfl) _ _ _ (by rfl) (by rfl) hrb2 ?_
      refine hK.out _ _ Sc fun hH => ?_; clear hK K; try simp only [zX,zY]
      refine zt1 12 ?_; refine ztn (h := ?_); try simp only [zX,zY]
      refine zte ?_
      refine zR1 13 (fun K hK => ?_)
      simp only [zG]
      go_simp
      refine hK.out _ _ Sd fun hH => ?_; clear hK K; try simp only [zX,zY]
      refine zdn ?_
      clear S0 Sa Sb Sc Sd t0 t1 t2 t3 th hi1 hi2 hi3 hi4 hra2 hrb2 hin2
     rotate_left
     focus
      rw [if_neg (fun e => hcj e.symm)] at hrb2
      have hcj2 : ¬ cb = i1 := fun e => hcj e.symm
      clear hx1
      refine wp_region_noPanic ?_
      refine wp_region_held_drew (S := fun (w' : World) => w'.cell? ⟨w.heap.size, 2, none⟩ = some (.slice (some ⟨bA2, oA2, none⟩) b.length cb)) (by kernel_rfl) ?_ (fun hH => ?_)
      . exact S0
      refine ztk [1,2,3,4,6,7,8,9,10] ?_; repeat (refine ztn (h := ?_); try simp only [zX,zY])
      refine zte ?_
      refine zR1 0 (fun K hK => ?_)
      simp only [zG]
      go_simp
      refine hK.out _ _ Sa fun hH => ?_; clear hK K; try simp only [zX,zY]
      refine zR1 5 (fun K hK => ?_)
      simp only [zG]
      rw [if_pos (by rfl)]; refine Qag _ _ _ (by rfl) _ _ _ (by rfl) (by rfl) hra2 ?_
      refine hK.out _ _ Sb fun hH => ?_; clear hK K; try simp only [zX,zY]
      refine zR1 11 (fun K hK => ?_)
      simp only [zG]
      rw [if_pos (by rfl)]; refine Qag _ _ _ (by rfl) _ _ _ (by rfl) (by rfl) hrb2 ?_
      refine hK.out _ _ Sc fun hH => ?_; clear hK K; try simp only [zX,zY]
      refine zt1 12 ?_; refine ztn (h := ?_); try simp only [zX,zY]
      refine zte ?_
      refine zR1 13 (fun K hK => ?_)
      simp only [zG]
      go_simp
      refine hK.out _ _ Sd fun hH => ?_; clear hK K; try simp only [zX,zY]
      refine zdn ?_
      clear S0 Sa Sb Sc Sd t0 t1 t2 t3 th hi1 hi2 hi3 hi4 hcj hcj2 hra2 hrb2 hin2
     all_goals
      have hx1 := Hx.out
      clear Hx Hlt
      generalize wb2.setCell ⟨P, 2, none⟩ (.slice x'2 n2 y'2) = W2' at *
      have V := HK2.out.p
      have I := HK2.out.i
      rw [← Hn1.out] at V
      rw [← Hn2.out] at V
      obtain ⟨t0, t1, t2, t3⟩ := V.row4
      obtain ⟨r0, r1, r2, r3⟩ := I.r.row4
      have f0 := I.r.thaw 0
      have f1 := I.r.thaw 1
      have f2 := I.r.thaw 2
      have f3 := I.r.thaw 3
      go_wp2
      have k0 : Blk (W2'.setCell ⟨w.heap.size + 1, 0, none⟩ (.int .i64 gen)) (w.heap.size + 1) 128 (Qak gen none 0 0 none 0 0 none 0 0) := I.r.setAt 0 _
      have s0 : (W2'.setCell ⟨w.heap.size + 1, 0, none⟩ (.int .i64 gen)).cell? ⟨w.heap.size + 1, 0, none⟩ = some (.int .i64 gen) := k0.row4.1
      have k1 : Blk ((W2'.setCell ⟨w.heap.size + 1, 0, none⟩ (.int .i64 gen)).setCell ⟨w.heap.size + 1, 1, none⟩ (.slice x'1 n1 y'1)) (w.heap.size + 1) 128 (Qak gen x'1 n1 y'1 none 0 0 none 0 0) := k0.setAt 1 _
      have s1 : ((W2'.setCell ⟨w.heap.size + 1, 0, none⟩ (.int .i64 gen)).setCell ⟨w.heap.size + 1, 1, none⟩ (.slice x'1 n1 y'1)).cell? ⟨w.heap.size + 1, 1, none⟩ = some (.slice x'1 n1 y'1) := k1.row4.2.1
      have k2 : Blk (((W2'.setCell ⟨w.heap.size + 1, 0, none⟩ (.int .i64 gen)).setCell ⟨w.heap.size + 1, 1, none⟩ (.slice x'1 n1 y'1)).setCell ⟨w.heap.size + 1, 2, none⟩ (.slice x'2 n2 y'2)) (w.heap.size + 1) 128 (Qak gen x'1 n1 y'1 x'2 n2 y'2 none 0 0) := k1.setAt 2 _
      have s2 : (((W2'.setCell ⟨w.heap.size + 1, 0, none⟩ (.int .i64 gen)).setCell ⟨w.heap.size + 1, 1, none⟩ (.slice x'1 n1 y'1)).setCell ⟨w.heap.size + 1, 2, none⟩ (.slice x'2 n2 y'2)).cell? ⟨w.heap.size + 1, 2, none⟩ = some (.slice x'2 n2 y'2) := k2.row4.2.2.1
      have k3 : Blk ((((W2'.setCell ⟨w.heap.size + 1, 0, none⟩ (.int .i64 gen)).setCell ⟨w.heap.size + 1, 1, none⟩ (.slice x'1 n1 y'1)).setCell ⟨w.heap.size + 1, 2, none⟩ (.slice x'2 n2 y'2)).setCell ⟨w.heap.size + 1, 3, none⟩ (.slice a3 o.length c3)) (w.heap.size + 1) 128 (Qak gen x'1 n1 y'1 x'2 n2 y'2 a3 o.length c3) := k2.setAt 3 _
      have s3 : ((((W2'.setCell ⟨w.heap.size + 1, 0, none⟩ (.int .i64 gen)).setCell ⟨w.heap.size + 1, 1, none⟩ (.slice x'1 n1 y'1)).setCell ⟨w.heap.size + 1, 2, none⟩ (.slice x'2 n2 y'2)).setCell ⟨w.heap.size + 1, 3, none⟩ (.slice a3 o.length c3)).cell? ⟨w.heap.size + 1, 3, none⟩ = some (.slice a3 o.length c3) := k3.row4.2.2.2
      refine bodyPost_ret (v := .agg (Qak gen x'1 n1 y'1 x'2 n2 y'2 a3 o.length c3)) (by simp [results, Tryz.results95, go_sem, s0, s1, s2, s3]) rfl ?_
      have hto := HK2.out.told
      rw [← Hn1.out] at hto
      rw [← Hn2.out] at hto
      exact hto
   . have hib : ¬ (i : Int) < (b.length : Int) := by omega
     have V := HK1.out.p
     have I := HK1.out.i
     rw [← Hn1.out] at V
     obtain ⟨t0, t1, t2, t3⟩ := V.row4
     obtain ⟨r0, r1, r2, r3⟩ := I.r.row4
     have f0 := I.r.thaw 0
     have f1 := I.r.thaw 1
     have f2 := I.r.thaw 2
     have f3 := I.r.thaw 3
     go_wp2
     have k0 : Blk (W1'.setCell ⟨w.heap.size + 1, 0, none⟩ (.int .i64 gen)) (w.heap.size + 1) 128 (Qak gen none 0 0 none 0 0 none 0 0) := I.r.setAt 0 _
     have s0 : (W1'.setCell ⟨w.heap.size + 1, 0, none⟩ (.int .i64 gen)).cell? ⟨w.heap.size + 1, 0, none⟩ = some (.int .i64 gen) := k0.row4.1
     have k1 : Blk ((W1'.setCell ⟨w.heap.size + 1, 0, none⟩ (.int .i64 gen)).setCell ⟨w.heap.size + 1, 1, none⟩ (.slice x'1 n1 y'1)) (w.heap.size + 1) 128 (Qak gen x'1 n1 y'1 none 0 0 none 0 0) := k0.setAt 1 _
     have s1 : ((W1'.setCell ⟨w.heap.size + 1, 0, none⟩ (.int .i64 gen)).setCell ⟨w.heap.size + 1, 1, none⟩ (.slice x'1 n1 y'1)).cell? ⟨w.heap.size + 1, 1, none⟩ = some (.slice x'1 n1 y'1) := k1.row4.2.1
     have k2 : Blk (((W1'.setCell ⟨w.heap.size + 1, 0, none⟩ (.int .i64 gen)).setCell ⟨w.heap.size + 1, 1, none⟩ (.slice x'1 n1 y'1)).setCell ⟨w.heap.size + 1, 2, none⟩ (.slice a2 b.length c2)) (w.heap.size + 1) 128 (Qak gen x'1 n1 y'1 a2 b.length c2 none 0 0) := k1.setAt 2 _
     have s2 : (((W1'.setCell ⟨w.heap.size + 1, 0, none⟩ (.int .i64 gen)).setCell ⟨w.heap.size + 1, 1, none⟩ (.slice x'1 n1 y'1)).setCell ⟨w.heap.size + 1, 2, none⟩ (.slice a2 b.length c2)).cell? ⟨w.heap.size + 1, 2, none⟩ = some (.slice a2 b.length c2) := k2.row4.2.2.1
     have k3 : Blk ((((W1'.setCell ⟨w.heap.size + 1, 0, none⟩ (.int .i64 gen)).setCell ⟨w.heap.size + 1, 1, none⟩ (.slice x'1 n1 y'1)).setCell ⟨w.heap.size + 1, 2, none⟩ (.slice a2 b.length c2)).setCell ⟨w.heap.size + 1, 3, none⟩ (.slice a3 o.length c3)) (w.heap.size + 1) 128 (Qak gen x'1 n1 y'1 a2 b.length c2 a3 o.length c3) := k2.setAt 3 _
     have s3 : ((((W1'.setCell ⟨w.heap.size + 1, 0, none⟩ (.int .i64 gen)).setCell ⟨w.heap.size + 1, 1, none⟩ (.slice x'1 n1 y'1)).setCell ⟨w.heap.size + 1, 2, none⟩ (.slice a2 b.length c2)).setCell ⟨w.heap.size + 1, 3, none⟩ (.slice a3 o.length c3)).cell? ⟨w.heap.size + 1, 3, none⟩ = some (.slice a3 o.length c3) := k3.row4.2.2.2
     refine bodyPost_ret (v := .agg (Qak gen x'1 n1 y'1 a2 b.length c2 a3 o.length c3)) (by simp [results, Tryz.results95, go_sem, s0, s1, s2, s3]) rfl ?_
     have hto := HK1.out.told
     rw [← Hn1.out] at hto
     rw [show b.eraseIdx i = b from List.eraseIdx_of_length_le (by omega)]
     exact hto
 . rw [if_neg (fun e => hcj e.symm)] at hrb1
   have hcj2 : ¬ ca = i1 := fun e => hcj e.symm
   clear hx1
   refine wp_region_noPanic ?_
   refine wp_region_held_drew (S := fun (w' : World) => w'.cell? ⟨w.heap.size, 1, none⟩ = some (.slice (some ⟨bA1, oA1, none⟩) m.length ca)) (by kernel_rfl) ?_ (fun hH => ?_)
   . exact S0
   refine ztk [1,2,3,4,6,7,8,9,10] ?_; repeat (refine ztn (h := ?_); try simp only [zX,zY])
   refine zte ?_
   refine zR1 0 (fun K hK => ?_)
   simp only [zG]
   go_simp
   refine hK.out _ _ Sa fun hH => ?_; clear hK K; try simp only [zX,zY]
   refine zR1 5 (fun K hK => ?_)
   simp only [zG]
   rw [if_pos (by rfl)]; refine Qag _ _ _ (by rfl) _ _ _ (by rfl) (by rfl) hra1 ?_
   refine hK.out _ _ Sb fun hH => ?_; clear hK K; try simp only [zX,zY]
   refine zR1 11 (fun K hK => ?_)
   simp only [zG]
   rw [if_pos (by rfl)]; refine Qag _ _ _ (by rfl) _ _ _ (by rfl) (by rfl) hrb1 ?_
   refine hK.out _ _ Sc fun hH => ?_; clear hK K; try simp only [zX,zY]
   refine zt1 12 ?_; refine ztn (h := ?_); try simp only [zX,zY]
   refine zte ?_
   refine zR1 13 (fun K hK => ?_)
   simp only [zG]
   go_simp
   refine hK.out _ _ Sd fun hH => ?_; clear hK K; try simp only [zX,zY]
   refine zdn ?_
   clear S0 Sa Sb Sc Sd t0 t1 t2 t3 th hi1 hi2 hi3 hi4 hcj hcj2 hra1 hrb1 hin1
   have hx1 := Hx.out
   clear Hx Hlt
   generalize wb1.setCell ⟨P, 1, none⟩ (.slice x'1 n1 y'1) = W1' at *
   have J2 := HK1.out
   obtain ⟨g0, g1, g2, g3⟩ := J2.i.s4
   by_cases hlt2 : i < b.length
   . have hib : (i : Int) < (b.length : Int) := by omega
     go_wp2_with fail
     obtain ⟨bA2, oA2, rfl, hbs2, hin2⟩ : ∃ b' o', B = some ⟨b', o', none⟩ /\ b' < w.heap.size /\ In w b' o' b := by
      rcases HB.out with h | h
      . subst h; simp at hlt2
      . exact h
     have hBl2 := J2.drew.i.bl
     have hT2 := Qd6 (HB.out.below hBl2) i
     have hD2 := Qiv (n := i1) (c := cb) (Nat.lt_of_lt_of_le hbs2 hBl2.size) (hin2.below hbs2 hBl2) (by omega)
     obtain ⟨x2, y2, wa2, x'2, y'2, wb2, hra2, hrb2, ba2, bb2, ob2⟩ := Qgi W1'.drew _ _ cb (cb - i1) (b.take i) (b.drop i1) (by simp; omega) (by simp; omega) hT2 hD2
     rw [hx1, Qdt] at ob2
     have hee : (b.take i ++ b.drop i1) = b.eraseIdx i := by rw [hx1, Qdt]
     rw [hee] at hrb2
     have e12 : (b.take i).length = i := by simp; omega
     have e22 : (b.drop i1).length = b.length - i1 := List.length_drop
     rw [e12] at hra2 hrb2
     rw [e22] at hrb2
     obtain ⟨n2, hn2⟩ : ∃ k, k = (b.eraseIdx i).length := ⟨_, rfl⟩
     rw [← hn2] at hrb2 ob2
     have K2 := J2.drew.rep2 bb2 ob2 hn2
     rw [← hn2] at K2
     have V2 := J2.drew.p.below bb2 J2.drew.p.lt
     obtain ⟨t0, t1, t2, t3⟩ := V2.row4
     have th := V2.thaw 2
     have S0 := J2.drew.i.s4.2.2.1
     have Sa := (J2.i.alloc (.cells #[] 3)).s4.2.2.1
     have Sb := (J2.drew.i.below ba2).s4.2.2.1
     have Sc := (J2.drew.i.below bb2).s4.2.2.1
     have Sd := K2.i.s4.2.2.1
     have hi1 : ((i1 : Nat) : Int) <= (cb : Int) := by omega
     have hi2 : ((i1 : Nat) : Int) <= (b.length : Int) := by omega
     have hi3 : ((i : Nat) : Int) <= (cb : Int) := by omega
     have hi4 : (b.length : Int) <= (cb : Int) := by omega
     have Hx := hidP hx1
     clear hee
     have Hlt := hidP hlt2
     have HK2 := hidP K2
     have Hn2 := hidP hn2
     clear hn2
     have HJ2 := hidP J2
     clear K2 hT2 hD2 ob2 V2
     by_cases hcj : i1 = cb
     focus
      subst hcj
      rw [if_pos rfl, Nat.sub_self, show b.length - i1 = 0 by omega] at hrb2
      clear hx1
      refine wp_region_noPanic ?_
      refine wp_region_held_drew (S := fun (w' : World) => w'.cell? ⟨w.heap.size, 2, none⟩ = some (.slice (some ⟨bA2, oA2, none⟩) b.length i1)) (by kernel_rfl) ?_ (fun hH => ?_)
      . exact S0
      refine ztk [1,2,3,4,6,7,8,9,10] ?_; repeat (refine ztn (h := ?_); try simp only [zX,zY])
      refine zte ?_
      refine zR1 0 (fun K hK => ?_)
      simp only [zG]
      go_simp
      refine hK.out _ _ Sa fun hH => ?_; clear hK K; try simp only [zX,zY]
      refine zR1 5 (fun K hK => ?_)
      simp only [zG]
      rw [if_pos (by rfl)]; refine Qag _ _ _ (by rfl) _ _ _ (by rfl) (by rfl) hra2 ?_
      refine hK.out _ _ Sb fun hH => ?_; clear hK K; try simp only [zX,zY]
      refine zR1 11 (fun K hK => ?_)
      simp only [zG]
      rw [if_pos (by rfl)]; refine Qag _ _ _ (by rfl) _ _ _ (by rfl) (by rfl) hrb2 ?_
      refine hK.out _ _ Sc fun hH => ?_; clear hK K; try simp only [zX,zY]
      refine zt1 12 ?_; refine ztn (h := ?_); try simp only [zX,zY]
      refine zte ?_
      refine zR1 13 (fun K hK => ?_)
      simp only [zG]
      go_simp
      refine hK.out _ _ Sd fun hH => ?_; clear hK K; try simp only [zX,zY]
      refine zdn ?_
      clear S0 Sa Sb Sc Sd t0 t1 t2 t3 th hi1 hi2 hi3 hi4 hra2 hrb2 hin2
     rotate_left
     focus
      rw [if_neg (fun e => hcj e.symm)] at hrb2
      have hcj2 : ¬ cb = i1 := fun e => hcj e.symm
      clear hx1
      refine wp_region_noPanic ?_
      refine wp_region_held_drew (S := fun (w' : World) => w'.cell? ⟨w.heap.size, 2, none⟩ = some (.slice (some ⟨bA2, oA2, none⟩) b.length cb)) (by kernel_rfl) ?_ (fun hH => ?_)
      . exact S0
      refine ztk [1,2,3,4,6,7,8,9,10] ?_; repeat (refine ztn (h := ?_); try simp only [zX,zY])
      refine zte ?_
      refine zR1 0 (fun K hK => ?_)
      simp only [zG]
      go_simp
      refine hK.out _ _ Sa fun hH => ?_; clear hK K; try simp only [zX,zY]
      refine zR1 5 (fun K hK => ?_)
      simp only [zG]
      rw [if_pos (by rfl)]; refine Qag _ _ _ (by rfl) _ _ _ (by rfl) (by rfl) hra2 ?_
      refine hK.out _ _ Sb fun hH => ?_; clear hK K; try simp only [zX,zY]
      refine zR1 11 (fun K hK => ?_)
      simp only [zG]
      rw [if_pos (by rfl)]; refine Qag _ _ _ (by rfl) _ _ _ (by rfl) (by rfl) hrb2 ?_
      refine hK.out _ _ Sc fun hH => ?_; clear hK K; try simp only [zX,zY]
      refine zt1 12 ?_; refine ztn (h := ?_); try simp only [zX,zY]
      refine zte ?_
      refine zR1 13 (fun K hK => ?_)
      simp only [zG]
      go_simp
      refine hK.out _ _ Sd fun hH => ?_; clear hK K; try simp only [zX,zY]
      refine zdn ?_
      clear S0 Sa Sb Sc Sd t0 t1 t2 t3 th hi1 hi2 hi3 hi4 hcj hcj2 hra2 hrb2 hin2
     all_goals
      have hx1 := Hx.out
      clear Hx Hlt
      generalize wb2.setCell ⟨P, 2, none⟩ (.slice x'2 n2 y'2) = W2' at *
      have V := HK2.out.p
      have I := HK2.out.i
      rw [← Hn1.out] at V
      rw [← Hn2.out] at V
      obtain ⟨t0, t1, t2, t3⟩ := V.row4
      obtain ⟨r0, r1, r2, r3⟩ := I.r.row4
      have f0 := I.r.thaw 0
      have f1 := I.r.thaw 1
      have f2 := I.r.thaw 2
      have f3 := I.r.thaw 3
      go_wp2
      have k0 : Blk (W2'.setCell ⟨w.heap.size + 1, 0, none⟩ (.int .i64 gen)) (w.heap.size + 1) 128 (Qak gen none 0 0 none 0 0 none 0 0) := I.r.setAt 0 _
      have s0 : (W2'.setCell ⟨w.heap.size + 1, 0, none⟩ (.int .i64 gen)).cell? ⟨w.heap.size + 1, 0, none⟩ = some (.int .i64 gen) := k0.row4.1
      have k1 : Blk ((W2'.setCell ⟨w.heap.size + 1, 0, none⟩ (.int .i64 gen)).setCell ⟨w.heap.size + 1, 1, none⟩ (.slice x'1 n1 y'1)) (w.heap.size + 1) 128 (Qak gen x'1 n1 y'1 none 0 0 none 0 0) := k0.setAt 1 _
      have s1 : ((W2'.setCell ⟨w.heap.size + 1, 0, none⟩ (.int .i64 gen)).setCell ⟨w.heap.size + 1, 1, none⟩ (.slice x'1 n1 y'1)).cell? ⟨w.heap.size + 1, 1, none⟩ = some (.slice x'1 n1 y'1) := k1.row4.2.1
      have k2 : Blk (((W2'.setCell ⟨w.heap.size + 1, 0, none⟩ (.int .i64 gen)).setCell ⟨w.heap.size + 1, 1, none⟩ (.slice x'1 n1 y'1)).setCell ⟨w.heap.size + 1, 2, none⟩ (.slice x'2 n2 y'2)) (w.heap.size + 1) 128 (Qak gen x'1 n1 y'1 x'2 n2 y'2 none 0 0) := k1.setAt 2 _
      have s2 : (((W2'.setCell ⟨w.heap.size + 1, 0, none⟩ (.int .i64 gen)).setCell ⟨w.heap.size + 1, 1, none⟩ (.slice x'1 n1 y'1)).setCell ⟨w.heap.size + 1, 2, none⟩ (.slice x'2 n2 y'2)).cell? ⟨w.heap.size + 1, 2, none⟩ = some (.slice x'2 n2 y'2) := k2.row4.2.2.1
      have k3 : Blk ((((W2'.setCell ⟨w.heap.size + 1, 0, none⟩ (.int .i64 gen)).setCell ⟨w.heap.size + 1, 1, none⟩ (.slice x'1 n1 y'1)).setCell ⟨w.heap.size + 1, 2, none⟩ (.slice x'2 n2 y'2)).setCell ⟨w.heap.size + 1, 3, none⟩ (.slice a3 o.length c3)) (w.heap.size + 1) 128 (Qak gen x'1 n1 y'1 x'2 n2 y'2 a3 o.length c3) := k2.setAt 3 _
      have s3 : ((((W2'.setCell ⟨w.heap.size + 1, 0, none⟩ (.int .i64 gen)).setCell ⟨w.heap.size + 1, 1, none⟩ (.slice x'1 n1 y'1)).setCell ⟨w.heap.size + 1, 2, none⟩ (.slice x'2 n2 y'2)).setCell ⟨w.heap.size + 1, 3, none⟩ (.slice a3 o.length c3)).cell? ⟨w.heap.size + 1, 3, none⟩ = some (.slice a3 o.length c3) := k3.row4.2.2.2
      refine bodyPost_ret (v := .agg (Qak gen x'1 n1 y'1 x'2 n2 y'2 a3 o.length c3)) (by simp [results, Tryz.results95, go_sem, s0, s1, s2, s3]) rfl ?_
      have hto := HK2.out.told
      rw [← Hn1.out] at hto
      rw [← Hn2.out] at hto
      exact hto
   . have hib : ¬ (i : Int) < (b.length : Int) := by omega
     have V := HK1.out.p
     have I := HK1.out.i
     rw [← Hn1.out] at V
     obtain ⟨t0, t1, t2, t3⟩ := V.row4
     obtain ⟨r0, r1, r2, r3⟩ := I.r.row4
     have f0 := I.r.thaw 0
     have f1 := I.r.thaw 1
     have f2 := I.r.thaw 2
     have f3 := I.r.thaw 3
     go_wp2
     have k0 : Blk (W1'.setCell ⟨w.heap.size + 1, 0, none⟩ (.int .i64 gen)) (w.heap.size + 1) 128 (Qak gen none 0 0 none 0 0 none 0 0) := I.r.setAt 0 _
     have s0 : (W1'.setCell ⟨w.heap.size + 1, 0, none⟩ (.int .i64 gen)).cell? ⟨w.heap.size + 1, 0, none⟩ = some (.int .i64 gen) := k0.row4.1
     have k1 : Blk ((W1'.setCell ⟨w.heap.size + 1, 0, none⟩ (.int .i64 gen)).setCell ⟨w.heap.size + 1, 1, none⟩ (.slice x'1 n1 y'1)) (w.heap.size + 1) 128 (Qak gen x'1 n1 y'1 none 0 0 none 0 0) := k0.setAt 1 _
     have s1 : ((W1'.setCell ⟨w.heap.size + 1, 0, none⟩ (.int .i64 gen)).setCell ⟨w.heap.size + 1, 1, none⟩ (.slice x'1 n1 y'1)).cell? ⟨w.heap.size + 1, 1, none⟩ = some (.slice x'1 n1 y'1) := k1.row4.2.1
     have k2 : Blk (((W1'.setCell ⟨w.heap.size + 1, 0, none⟩ (.int .i64 gen)).setCell ⟨w.heap.size + 1, 1, none⟩ (.slice x'1 n1 y'1)).setCell ⟨w.heap.size + 1, 2, none⟩ (.slice a2 b.length c2)) (w.heap.size + 1) 128 (Qak gen x'1 n1 y'1 a2 b.length c2 none 0 0) := k1.setAt 2 _
     have s2 : (((W1'.setCell ⟨w.heap.size + 1, 0, none⟩ (.int .i64 gen)).setCell ⟨w.heap.size + 1, 1, none⟩ (.slice x'1 n1 y'1)).setCell ⟨w.heap.size + 1, 2, none⟩ (.slice a2 b.length c2)).cell? ⟨w.heap.size + 1, 2, none⟩ = some (.slice a2 b.length c2) := k2.row4.2.2.1
     have k3 : Blk ((((W1'.setCell ⟨w.heap.size + 1, 0, none⟩ (.int .i64 gen)).setCell ⟨w.heap.size + 1, 1, none⟩ (.slice x'1 n1 y'1)).setCell ⟨w.heap.size + 1, 2, none⟩ (.slice a2 b.length c2)).setCell ⟨w.heap.size + 1, 3, none⟩ (.slice a3 o.length c3)) (w.heap.size + 1) 128 (Qak gen x'1 n1 y'1 a2 b.length c2 a3 o.length c3) := k2.setAt 3 _
     have s3 : ((((W1'.setCell ⟨w.heap.size + 1, 0, none⟩ (.int .i64 gen)).setCell ⟨w.heap.size + 1, 1, none⟩ (.slice x'1 n1 y'1)).setCell ⟨w.heap.size + 1, 2, none⟩ (.slice a2 b.length c2)).setCell ⟨w.heap.size + 1, 3, none⟩ (.slice a3 o.length c3)).cell? ⟨w.heap.size + 1, 3, none⟩ = some (.slice a3 o.length c3) := k3.row4.2.2.2
     refine bodyPost_ret (v := .agg (Qak gen x'1 n1 y'1 a2 b.length c2 a3 o.length c3)) (by simp [results, Tryz.results95, go_sem, s0, s1, s2, s3]) rfl ?_
     have hto := HK1.out.told
     rw [← Hn1.out] at hto
     rw [show b.eraseIdx i = b from List.eraseIdx_of_length_le (by omega)]
     exact hto
end Go.Proofs.YtlniljigeemnoaaGreat.Gen
