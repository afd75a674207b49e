/-
  Nodes as wholes: eq, mark and held of the laws. No condition.
-/
import Derived.Test.YtglegpkcikacoaaGreatDoorKeepP
set_option linter.unusedVariables false
set_option linter.unusedSimpArgs false
set_option maxRecDepth 100000
set_option maxHeartbeats 8000000
namespace Go.Proofs.YtglegpkcikacoaaGreatDoor.Gen
open ChangeShapes WideShapes ChangeAt RowKit Joins Deep Base
theorem POwn.mono {W : World} {p : PC} {S T : Nat -> Prop} (h : POwn W p S) (s : ∀ b, S b -> T b) : POwn W p T := by
 obtain ⟨c, h⟩ := h
 exact ⟨c, h.l.mono (fun b hb => ⟨s b hb.1, hb.2⟩), h.x.mono (fun b hb => ⟨s b hb.1, hb.2⟩), h.v.mono (fun b hb => ⟨s b hb.1, hb.2⟩), h.n.mono (fun b hb => ⟨s b hb.1, hb.2⟩), h.q.mono (fun b hb => ⟨s b hb.1, hb.2⟩), h.y.mono (fun b hb => ⟨s b hb.1, hb.2⟩), h.d.mono (fun b hb => ⟨s b hb.1, hb.2⟩), h.h.mono (fun b hb => ⟨s b hb.1, hb.2⟩)⟩
theorem Qha {a b : List RpC} (h : a.map RpC.p = b.map RpC.p) : a.length = b.length := by have := congrArg List.length h; simpa using this
theorem held_fit {a b : List RpC} {N : Nat} (h : a.map RpC.p = b.map RpC.p) (hb : ∀ z ∈ b, z.l.length <= N) : ∀ z ∈ a, z.l.length <= N := by
 intro z hz
 have h1 : z.p ∈ b.map RpC.p := h ▸ List.mem_map_of_mem hz
 obtain ⟨y, hy, e⟩ := List.mem_map.1 h1
 have : y.l = z.l := congrArg RpP.l e
 rw [← this]; exact hb y hy
theorem kct_p {x y : KC} (h : y.p = x.p) : kct y = kct x := by
 obtain ⟨l1, l2, l3, l4, l5, l6⟩ := KC.p_len h
 simp only [KC.p, PK.mk.injEq] at h
 obtain ⟨h1, h2, h3, _, _, _⟩ := h
 have c1 : Qac cR y.rs = Qac cR x.rs := (Qbx RC.p (fun p => 2 + p.its.length * 5) y.rs).trans (by rw [h1]; exact (Qbx RC.p (fun p => 2 + p.its.length * 5) x.rs).symm)
 have c2 : Qac cM y.ms = Qac cM x.ms := (Qbx MC.p (fun p => 4 + p.ms.length * 2) y.ms).trans (by rw [h2]; exact (Qbx MC.p (fun p => 4 + p.ms.length * 2) x.ms).symm)
 have c3 : Qac cG y.gs = Qac cG x.gs := (Qbx GC.p (fun p => 1 + p.m.length + p.b.length + p.o.length) y.gs).trans (by rw [h3]; exact (Qbx GC.p (fun p => 1 + p.m.length + p.b.length + p.o.length) x.gs).symm)
 unfold kct
 rw [c1, c2, c3, l5, l6]
theorem cnt_p {a b : List RpC} (h : a.map RpC.p = b.map RpC.p) : Qac (fun z : RpC => z.l.length) a = Qac (fun z : RpC => z.l.length) b :=
 (Qbx RpC.p (fun p => p.l.length) a).trans (by rw [h]; exact (Qbx RpC.p (fun p => p.l.length) b).symm)
theorem PFit.same {q p : PC} (f : PFit p) (s : SameP q p) : PFit q :=
 ⟨s.l ▸ f.ll, fit_p s.x f.xf, s.vs ▸ f.vl, s.ns ▸ f.nl, s.ps ▸ f.pl, fit_p s.y f.yf, s.db ▸ f.dl, by rw [Qha s.hs]; exact f.hl, held_fit s.hs f.hi, by rw [s.l, kct_p s.x, s.vs, s.ns, s.ps, kct_p s.y, s.db, Qha s.hs, cnt_p s.hs]; exact f.tot⟩
theorem eqQ {a b p : PC} (hf : PFit p) (sa : SameP a p) (sb : SameP b p) {W : World} (ha : PAt W a) (hb : PAt W b) : Calls Tryz.prog 7 #[.agg (Qak a), .agg (Qak b)] W fun e w' => e = .returned (.bool true) /\ Below W.heap.size W w' := by
 have fa := hf.same sa
 have s := sb.trans sa.symm
 have h := Qkp a.id a.te a.vo a.base a.bt a.role a.com a.su a.A b.A a.vA b.vA a.nA b.nA a.pA b.pA a.dA b.dA a.hA b.hA a.cap b.cap a.vc b.vc a.nc b.nc a.pc b.pc a.dc b.dc a.hc b.hc a.l a.vs a.ns a.ps a.db a.hs b.hs a.x b.x a.y b.y
  (by have := fa.ll; omega) (by have := fa.vl; omega) (by have := fa.nl; omega) (by have := fa.pl; omega) (by have := fa.dl; omega) (by have := fa.hl; omega) (fun z hz => by have := fa.hi z hz; omega)
  fa.xf s.x fa.yf s.y s.hs W ha.la (s.l ▸ hb.la) ha.xa hb.xa ha.va (s.vs ▸ hb.va) ha.na (s.ns ▸ hb.na) ha.pa (s.ps ▸ hb.pa) ha.ya hb.ya ha.da (s.db ▸ hb.da) ha.ha ha.he hb.ha hb.he
 have e : Qak b = Qak { b with id := a.id, te := a.te, vo := a.vo, base := a.base, bt := a.bt, l := a.l, role := a.role, vs := a.vs, ns := a.ns, ps := a.ps, com := a.com, db := a.db, su := a.su } := by
  simp only [Qak, Qgs, heldV, s.id, s.te, s.vo, s.base, s.bt, s.l, s.role, s.vs, s.ns, s.ps, s.com, s.db, s.su]
 rw [e]
 have hl := Qha s.hs
 simp only [Qak, Qgs, heldV, hl]
 exact h
theorem markQ {q : PC} (hf : PFit q) {S : Nat -> Prop} {W : World} (hS : ∀ z, S z -> z < W.heap.size) (h : POwn W q S) : Calls Tryz.prog 8 #[.agg (Qak q), .int .i64 1] W fun e w' => e = .returned (.int .i64 (pz7 q)) /\ Offp S W w' /\ POwn w' (mPe q) S := Qit q hf S W hS h
theorem heldQ {q : PC} (hf : PFit q) {S : Nat -> Prop} {W : World} (h : POwn W (mPe q) S) : Calls Tryz.prog 9 #[.agg (Qak q), .int .i64 1] W fun e w' => e = .returned (.int .i64 (pz7 q)) /\ Below W.heap.size W w' := Qi7 q hf S W h
theorem Qfp (ro wi le ke : Int) (A : Option Addr) (cap : Nat) (l : List MC) (hl : l.length <= 1048576) (hs : ∀ x ∈ l, x.ms.length <= 1048576) (w : World) (hA : At w A l) (hE : Each w l) :
 Calls Tryz.prog 80 #[.agg #[.int .i64 ro, .int .i64 wi, .int .i64 le, .int .i64 ke], .slice A l.length cap] w fun e w' => e = .returned (.bool (l.all (makF ro wi) && Qbv l l.length)) /\ Below w.heap.size w w' := by
 have HA := hidP hA
 have HE := hidP hE
 have Hs := hidP hs
 clear hA hE hs
 go_enter Tryz.func80, Tryz.ntmps80
 go_wp2
 go_loopw [5] (fun i w' => ∃ (n : Nat), i = .int .i64 (n : Int) /\ n <= l.length /\ Hid ((l.take n).all (makF ro wi) = true) /\ Hid (Qbv l n = true) /\ Hid (Blk w' w.heap.size 45 #[.int .i64 ro, .int .i64 wi, .int .i64 le, .int .i64 ke]) /\ Below w.heap.size w w') (fun i _ => l.length - (intOf i).toNat)
 case atStart => exact ⟨0, rfl, by omega, rfl, rfl, Blk.new w _ _, by repeat (first | exact Below.refl _ _ | assumption | refine via0 (by assumption) ?_ | refine Below.drew ?_ | refine Qaa ?_ _)⟩
 case round =>
  obtain ⟨n, rfl, hn, hal, hO, P0, hbl⟩ := hrel
  by_cases hlt : n < l.length
  . obtain ⟨b, o, rfl, hbs, hIn⟩ : ∃ b o, A = some ⟨b, o, none⟩ /\ b < w.heap.size /\ In w b o l := by
     rcases HA.out with h | h
     . subst h; simp at hlt
     . exact h
    obtain ⟨c0, c1, c2, c3, c4⟩ := (hIn.below hbs hbl).getMC n hlt
    have hat := (HE.out _ (List.getElem_mem hlt)).below hbl
    have hms := Hs.out _ (List.getElem_mem hlt)
    have hsa := Qby (makF ro wi) hlt
    have hna := Qde (makF ro wi) hlt
    have hi0 : (0 : Int) <= (n : Int) := by omega
    have hi1 : (n : Int) < (l.length : Int) := by omega
    generalize hy : l[n] = y at c0 c1 c2 c3 c4 hat hms hsa hna
    have Hy := hidP hy
    clear hy
    obtain ⟨bb, hb⟩ : ∃ b, okB y.row y.who y.epoch y.last wi y.ms = b := ⟨_, rfl⟩
    have HC : Hid (∀ W : World, Below wr.heap.size wr W -> Calls Tryz.prog 125 #[.agg #[.int .i64 y.row, .int .i64 y.who, .int .i64 y.epoch, .int .i64 y.last, .slice y.A y.ms.length y.cap], .int .i64 wi] W fun e w' => e = .returned (.bool bb) /\ Below W.heap.size W w') := fun W g => hb ▸ specOk_is _ _ _ _ _ _ _ _ hms W (hat.below g)
    have hm : makF ro wi y = (bb && decide (y.row < ro)) := by rw [makF, hb]
    rw [hm] at hsa hna
    obtain ⟨s0, s1, s2, s3⟩ := P0.out.row4
    have qs := P0.out.lt
    clear hb hm hat
    cases bb
    . have hF : Hid ((l.all (makF ro wi) && Qbv l l.length) = false) := by show _ = _; rw [hna rfl]; rfl
      clear hsa hna
      go_wp2_with fail
      refine (HC.out _ (Qaa (Below.refl _ _) _)).mono ?_
      rintro e w1 ⟨rfl, g1⟩
      have B1 : Below w.heap.size w w1 := via0 g1 (Qaa hbl _)
      go_wp2
      go_ret
      exact ⟨by rw [hF.out]; rfl, B1⟩
    by_cases kr : ro <= y.row
    . have hF : Hid ((l.all (makF ro wi) && Qbv l l.length) = false) := by show _ = _; rw [hna (by simp; omega)]; rfl
      clear hsa hna
      go_wp2_with fail
      refine (HC.out _ (Qaa (Below.refl _ _) _)).mono ?_
      rintro e w1 ⟨rfl, g1⟩
      have B1 : Below w.heap.size w w1 := via0 g1 (Qaa hbl _)
      have p1 := (P0.out.alloc (.cells #[.int .i64 y.row, .int .i64 y.who, .int .i64 y.epoch, .int .i64 y.last, .slice y.A y.ms.length y.cap] 139)).below g1 (by simp; omega)
      have y1 := (Blk.new wr 139 #[.int .i64 y.row, .int .i64 y.who, .int .i64 y.epoch, .int .i64 y.last, .slice y.A y.ms.length y.cap]).below g1 (by simp)
      obtain ⟨t0, t1, t2, t3⟩ := p1.row4
      obtain ⟨e0, e1, e2, e3, e4⟩ := y1.row5
      have q1 := p1.lt
      have q2 := y1.lt
      go_wp2
      go_ret
      exact ⟨by rw [hF.out]; rfl, B1⟩
    . have hA1 : Hid ((l.take (n + 1)).all (makF ro wi) = true) := by show _ = _; rw [hsa, hal.out]; simp; omega
      clear hsa hna
      go_wp2_with fail
      refine (HC.out _ (Qaa (Below.refl _ _) _)).mono ?_
      rintro e w1 ⟨rfl, g1⟩
      have B1 : Below w.heap.size w w1 := via0 g1 (Qaa hbl _)
      have p1 := (P0.out.alloc (.cells #[.int .i64 y.row, .int .i64 y.who, .int .i64 y.epoch, .int .i64 y.last, .slice y.A y.ms.length y.cap] 139)).below g1 (by simp; omega)
      have y1 := (Blk.new wr 139 #[.int .i64 y.row, .int .i64 y.who, .int .i64 y.epoch, .int .i64 y.last, .slice y.A y.ms.length y.cap]).below g1 (by simp)
      have P1 := hidP p1
      obtain ⟨t0, t1, t2, t3⟩ := p1.row4
      obtain ⟨e0, e1, e2, e3, e4⟩ := y1.row5
      have q1 := p1.lt
      have q2 := y1.lt
      clear c0 c1 c2 c3 c4 s0 s1 s2 s3 p1 y1 g1 HC qs
      generalize wr.heap.size = mb at *
      by_cases hz : n = 0
      . have hO1 : Hid (Qbv l (n + 1) = true) := by show _ = _; rw [Qd7, hO.out]; simp [Qfy, hz]
        have hd : Hid (decide (0 < n) = false) := decide_eq_false (by omega)
        clear hz
        go_wp2
        refine wp_region_noPanic ?_
        refine wp_region_held_drew (S := (fun w' => w'.cell? ⟨mb, 0, none⟩ = some (.int .i64 y.row) /\ w'.cell? ⟨mb, 1, none⟩ = some (.int .i64 y.who))) (by kernel_rfl) ?_ (fun hH => ?_)
        . (refine ⟨?_, ?_⟩<;>assumption)
        refine zt1 0 ?_; refine ztn (h := ?_); try simp only [zX,zY]
        refine zte ?_
        refine' wpAnyH_take (i := 1) (v := _) rfl (by kernel_rfl) (by kernel_rfl) (by kernel_rfl) (fun _ _ _ h => h) (Or.inl ⟨by rfl, ?hy12⟩) (by assumption) ?rest12
        case hy12 => (intro w hSw; (try dsimp only at hSw); go_simp<;>(rw [hd.out]<;>with_reducible rfl))
        try simp only [zX,zY]
        refine ztk [2,3,4,5,6,7,8,9,10,11,12,13,14,15,16,17,18,19,20,21,22,23,24,25,26,27,28,29,30,31,32,33,34] ?_; repeat ((first | refine ztn (h := ?_) | refine ztu (h := ?_)); try simp only [zX,zY])
        refine zte ?_
        refine zdn ?_
        go_wp2
        exact ⟨⟨n + 1, by go_num, by omega, hA1, hO1, P1.out.drew, B1.drew⟩, by simp [intOf]; omega⟩
      . obtain ⟨p, hpn⟩ : ∃ p, n = p + 1 := ⟨n - 1, by omega⟩
        have hpl : p < l.length := by omega
        obtain ⟨d0, d1, d2, d3, d4⟩ := (hIn.below hbs B1).getMC p hpl
        have hd : Hid (decide (0 < n) = true) := decide_eq_true (by omega)
        have j0 : (0 : Int) <= (p : Int) := by omega
        have j1 : (p : Int) < (l.length : Int) := by omega
        have jw : Hid (IntKind.i64.wrap ((n : Int) - 1) = (p : Int)) := by
         show IntKind.i64.wrap ((n : Int) - 1) = (p : Int)
         rw [IntKind.wrap_i64]; omega
        have hb2 : b < w1.heap.size := Nat.lt_of_lt_of_le hbs B1.size
        have hoa : Qfy l n = behB l[p] y := by rw [← Hy.out]; subst hpn; exact ordAt_is hlt
        have hsu : Qbv l (n + 1) = behB l[p] y := by rw [Qd7, hO.out, hoa]; rfl
        have hno : behB l[p] y = false -> Qbv l l.length = false := fun h => ordTo_no hlt (hoa.trans h)
        clear hoa hpn hz
        generalize l[p] = z at d0 d1 d2 d3 d4 hsu hno
        by_cases k1 : y.row < z.row
        . have hF : Hid ((l.all (makF ro wi) && Qbv l l.length) = false) := by show _ = _; rw [hno (by simp [behB]; omega)]; simp
          have hg : Hid (decide (y.row < z.row) = true) := decide_eq_true k1
          clear hsu hno k1
          go_wp2
          refine wp_region_noPanic ?_
          refine wp_region_held_drew (S := (fun w' => w'.cell? ⟨mb, 0, none⟩ = some (.int .i64 y.row) /\ w'.cell? ⟨mb, 1, none⟩ = some (.int .i64 y.who) /\ w'.cell? ⟨b, o + p * 5, none⟩ = some (.int .i64 z.row) /\ w'.cell? ⟨b, o + p * 5 + 1, none⟩ = some (.int .i64 z.who))) (by kernel_rfl) ?_ (fun hH => ?_)
          . (refine ⟨?_, ?_, ?_, ?_⟩<;>assumption)
          refine zt1 0 ?_; refine ztn (h := ?_); try simp only [zX,zY]
          refine zte ?_
          refine' wpAnyH_take (i := 1) (v := _) rfl (by kernel_rfl) (by kernel_rfl) (by kernel_rfl) (fun _ _ _ h => h) (Or.inl ⟨by rfl, ?hy16⟩) (by assumption) ?rest16
          case hy16 => (intro w hSw; (try dsimp only at hSw); go_simp<;>(rw [hd.out]<;>with_reducible rfl))
          try simp only [zX,zY]
          refine ztk [2,3,4] ?_; repeat (refine ztn (h := ?_); try simp only [zX,zY])
          refine zte ?_
          refine' wpAnyH_take (i := 5) (v := _) rfl (by kernel_rfl) (by kernel_rfl) (by kernel_rfl) (fun _ _ _ h => h) (Or.inl ⟨by rfl, ?hy20⟩) (by assumption) ?rest20
          case hy20 => (intro w hSw; (try dsimp only at hSw); go_simp<;>(rw [jw.out]<;>with_reducible rfl))
          try simp only [zX,zY]
          refine ztk [6,7,8,9,10] ?_; repeat (refine ztn (h := ?_); try simp only [zX,zY])
          refine zte ?_
          refine' wpAnyH_take (i := 11) (v := _) rfl (by kernel_rfl) (by kernel_rfl) (by kernel_rfl) (fun _ _ _ h => h) (Or.inl ⟨by rfl, ?hy26⟩) (by assumption) ?rest26
          case hy26 => (intro w hSw; (try dsimp only at hSw); go_simp<;>(rw [hg.out]<;>with_reducible rfl))
          try simp only [zX,zY]
          refine ztk [12,13,14,15,16,17,18,19,20,21,22,23,24,25,26,27,28,29,30,31,32,33,34] ?_; repeat ((first | refine ztn (h := ?_) | refine ztu (h := ?_)); try simp only [zX,zY])
          refine zte ?_
          refine zdn ?_
          go_wp2
          go_ret
          exact ⟨by rw [hF.out]; rfl, B1.drew⟩
        . have hg : Hid (decide (y.row < z.row) = false) := decide_eq_false k1
          by_cases k2 : z.row = y.row
          . have he : Hid ((z.row == y.row) = true) := by show _ = _; simp [k2]
            by_cases k3 : y.who <= z.who
            . have hF : Hid ((l.all (makF ro wi) && Qbv l l.length) = false) := by show _ = _; rw [hno (by simp [behB]; omega)]; simp
              have hw : Hid (decide (y.who <= z.who) = true) := decide_eq_true k3
              clear hsu hno k1 k2 k3
              go_wp2
              refine wp_region_noPanic ?_
              refine wp_region_held_drew (S := (fun w' => w'.cell? ⟨mb, 0, none⟩ = some (.int .i64 y.row) /\ w'.cell? ⟨mb, 1, none⟩ = some (.int .i64 y.who) /\ w'.cell? ⟨b, o + p * 5, none⟩ = some (.int .i64 z.row) /\ w'.cell? ⟨b, o + p * 5 + 1, none⟩ = some (.int .i64 z.who))) (by kernel_rfl) ?_ (fun hH => ?_)
              . (refine ⟨?_, ?_, ?_, ?_⟩<;>assumption)
              refine zt1 0 ?_; refine ztn (h := ?_); try simp only [zX,zY]
              refine zte ?_
              refine' wpAnyH_take (i := 1) (v := _) rfl (by kernel_rfl) (by kernel_rfl) (by kernel_rfl) (fun _ _ _ h => h) (Or.inl ⟨by rfl, ?hy31⟩) (by assumption) ?rest31
              case hy31 => (intro w hSw; (try dsimp only at hSw); go_simp<;>(rw [hd.out]<;>with_reducible rfl))
              try simp only [zX,zY]
              refine ztk [2,3,4] ?_; repeat (refine ztn (h := ?_); try simp only [zX,zY])
              refine zte ?_
              refine' wpAnyH_take (i := 5) (v := _) rfl (by kernel_rfl) (by kernel_rfl) (by kernel_rfl) (fun _ _ _ h => h) (Or.inl ⟨by rfl, ?hy35⟩) (by assumption) ?rest35
              case hy35 => (intro w hSw; (try dsimp only at hSw); go_simp<;>(rw [jw.out]<;>with_reducible rfl))
              try simp only [zX,zY]
              refine ztk [6,7,8,9,10] ?_; repeat (refine ztn (h := ?_); try simp only [zX,zY])
              refine zte ?_
              refine' wpAnyH_take (i := 11) (v := _) rfl (by kernel_rfl) (by kernel_rfl) (by kernel_rfl) (fun _ _ _ h => h) (Or.inl ⟨by rfl, ?hy41⟩) (by assumption) ?rest41
              case hy41 => (intro w hSw; (try dsimp only at hSw); go_simp<;>(rw [hg.out]<;>with_reducible rfl))
              try simp only [zX,zY]
              refine ztk [12,13,14] ?_; repeat (refine ztn (h := ?_); try simp only [zX,zY])
              refine zte ?_
              refine' wpAnyH_take (i := 15) (v := _) rfl (by kernel_rfl) (by kernel_rfl) (by kernel_rfl) (fun _ _ _ h => h) (Or.inl ⟨by rfl, ?hy45⟩) (by assumption) ?rest45
              case hy45 => (intro w hSw; (try dsimp only at hSw); go_simp<;>(rw [jw.out]<;>with_reducible rfl))
              try simp only [zX,zY]
              refine ztk [16,17,18,19,20] ?_; repeat (refine ztn (h := ?_); try simp only [zX,zY])
              refine zte ?_
              refine' wpAnyH_take (i := 21) (v := _) rfl (by kernel_rfl) (by kernel_rfl) (by kernel_rfl) (fun _ _ _ h => h) (Or.inl ⟨by rfl, ?hy51⟩) (by assumption) ?rest51
              case hy51 => (intro w hSw; (try dsimp only at hSw); go_simp<;>(rw [he.out]<;>with_reducible rfl))
              try simp only [zX,zY]
              refine ztk [22,23,24] ?_; repeat (refine ztn (h := ?_); try simp only [zX,zY])
              refine zte ?_
              refine' wpAnyH_take (i := 25) (v := _) rfl (by kernel_rfl) (by kernel_rfl) (by kernel_rfl) (fun _ _ _ h => h) (Or.inl ⟨by rfl, ?hy55⟩) (by assumption) ?rest55
              case hy55 => (intro w hSw; (try dsimp only at hSw); go_simp<;>(rw [jw.out]<;>with_reducible rfl))
              try simp only [zX,zY]
              refine ztk [26,27,28,29,30] ?_; repeat (refine ztn (h := ?_); try simp only [zX,zY])
              refine zte ?_
              refine' wpAnyH_take (i := 31) (v := _) rfl (by kernel_rfl) (by kernel_rfl) (by kernel_rfl) (fun _ _ _ h => h) (Or.inl ⟨by rfl, ?hy61⟩) (by assumption) ?rest61
              case hy61 => (intro w hSw; (try dsimp only at hSw); go_simp<;>(rw [hw.out]<;>with_reducible rfl))
              try simp only [zX,zY]
              refine ztk [32,33,34] ?_; repeat (refine ztn (h := ?_); try simp only [zX,zY])
              refine zte ?_
              refine zdn ?_
              go_wp2
              go_ret
              exact ⟨by rw [hF.out]; rfl, B1.drew⟩
            . have hO1 : Hid (Qbv l (n + 1) = true) := by show _ = _; rw [hsu]; simp [behB, k2]; omega
              have hw : Hid (decide (y.who <= z.who) = false) := decide_eq_false k3
              clear hsu hno k1 k2 k3
              go_wp2
              refine wp_region_noPanic ?_
              refine wp_region_held_drew (S := (fun w' => w'.cell? ⟨mb, 0, none⟩ = some (.int .i64 y.row) /\ w'.cell? ⟨mb, 1, none⟩ = some (.int .i64 y.who) /\ w'.cell? ⟨b, o + p * 5, none⟩ = some (.int .i64 z.row) /\ w'.cell? ⟨b, o + p * 5 + 1, none⟩ = some (.int .i64 z.who))) (by kernel_rfl) ?_ (fun hH => ?_)
              . (refine ⟨?_, ?_, ?_, ?_⟩<;>assumption)
              refine zt1 0 ?_; refine ztn (h := ?_); try simp only [zX,zY]
              refine zte ?_
              refine' wpAnyH_take (i := 1) (v := _) rfl (by kernel_rfl) (by kernel_rfl) (by kernel_rfl) (fun _ _ _ h => h) (Or.inl ⟨by rfl, ?hy66⟩) (by assumption) ?rest66
              case hy66 => (intro w hSw; (try dsimp only at hSw); go_simp<;>(rw [hd.out]<;>with_reducible rfl))
              try simp only [zX,zY]
              refine ztk [2,3,4] ?_; repeat (refine ztn (h := ?_); try simp only [zX,zY])
              refine zte ?_
              refine' wpAnyH_take (i := 5) (v := _) rfl (by kernel_rfl) (by kernel_rfl) (by kernel_rfl) (fun _ _ _ h => h) (Or.inl ⟨by rfl, ?hy70⟩) (by assumption) ?rest70
              case hy70 => (intro w hSw; (try dsimp only at hSw); go_simp<;>(rw [jw.out]<;>with_reducible rfl))
              try simp only [zX,zY]
              refine ztk [6,7,8,9,10] ?_; repeat (refine ztn (h := ?_); try simp only [zX,zY])
              refine zte ?_
              refine' wpAnyH_take (i := 11) (v := _) rfl (by kernel_rfl) (by kernel_rfl) (by kernel_rfl) (fun _ _ _ h => h) (Or.inl ⟨by rfl, ?hy76⟩) (by assumption) ?rest76
              case hy76 => (intro w hSw; (try dsimp only at hSw); go_simp<;>(rw [hg.out]<;>with_reducible rfl))
              try simp only [zX,zY]
              refine ztk [12,13,14] ?_; repeat (refine ztn (h := ?_); try simp only [zX,zY])
              refine zte ?_
              refine' wpAnyH_take (i := 15) (v := _) rfl (by kernel_rfl) (by kernel_rfl) (by kernel_rfl) (fun _ _ _ h => h) (Or.inl ⟨by rfl, ?hy80⟩) (by assumption) ?rest80
              case hy80 => (intro w hSw; (try dsimp only at hSw); go_simp<;>(rw [jw.out]<;>with_reducible rfl))
              try simp only [zX,zY]
              refine ztk [16,17,18,19,20] ?_; repeat (refine ztn (h := ?_); try simp only [zX,zY])
              refine zte ?_
              refine' wpAnyH_take (i := 21) (v := _) rfl (by kernel_rfl) (by kernel_rfl) (by kernel_rfl) (fun _ _ _ h => h) (Or.inl ⟨by rfl, ?hy86⟩) (by assumption) ?rest86
              case hy86 => (intro w hSw; (try dsimp only at hSw); go_simp<;>(rw [he.out]<;>with_reducible rfl))
              try simp only [zX,zY]
              refine ztk [22,23,24] ?_; repeat (refine ztn (h := ?_); try simp only [zX,zY])
              refine zte ?_
              refine' wpAnyH_take (i := 25) (v := _) rfl (by kernel_rfl) (by kernel_rfl) (by kernel_rfl) (fun _ _ _ h => h) (Or.inl ⟨by rfl, ?hy90⟩) (by assumption) ?rest90
              case hy90 => (intro w hSw; (try dsimp only at hSw); go_simp<;>(rw [jw.out]<;>with_reducible rfl))
              try simp only [zX,zY]
              refine ztk [26,27,28,29,30] ?_; repeat (refine ztn (h := ?_); try simp only [zX,zY])
              refine zte ?_
              refine' wpAnyH_take (i := 31) (v := _) rfl (by kernel_rfl) (by kernel_rfl) (by kernel_rfl) (fun _ _ _ h => h) (Or.inl ⟨by rfl, ?hy96⟩) (by assumption) ?rest96
              case hy96 => (intro w hSw; (try dsimp only at hSw); go_simp<;>(rw [hw.out]<;>with_reducible rfl))
              try simp only [zX,zY]
              refine ztk [32,33,34] ?_; repeat (refine ztn (h := ?_); try simp only [zX,zY])
              refine zte ?_
              refine zdn ?_
              go_wp2
              exact ⟨⟨n + 1, by go_num, by omega, hA1, hO1, P1.out.drew, B1.drew⟩, by simp [intOf]; omega⟩
          . have he : Hid ((z.row == y.row) = false) := by show _ = _; simp [k2]
            have hO1 : Hid (Qbv l (n + 1) = true) := by show _ = _; rw [hsu]; simp [behB]; omega
            clear hsu hno k1 k2
            go_wp2
            refine wp_region_noPanic ?_
            refine wp_region_held_drew (S := (fun w' => w'.cell? ⟨mb, 0, none⟩ = some (.int .i64 y.row) /\ w'.cell? ⟨mb, 1, none⟩ = some (.int .i64 y.who) /\ w'.cell? ⟨b, o + p * 5, none⟩ = some (.int .i64 z.row) /\ w'.cell? ⟨b, o + p * 5 + 1, none⟩ = some (.int .i64 z.who))) (by kernel_rfl) ?_ (fun hH => ?_)
            . (refine ⟨?_, ?_, ?_, ?_⟩<;>assumption)
            refine zt1 0 ?_; refine ztn (h := ?_); try simp only [zX,zY]
            refine zte ?_
            refine' wpAnyH_take (i := 1) (v := _) rfl (by kernel_rfl) (by kernel_rfl) (by kernel_rfl) (fun _ _ _ h => h) (Or.inl ⟨by rfl, ?hy101⟩) (by assumption) ?rest101
            case hy101 => (intro w hSw; (try dsimp only at hSw); go_simp<;>(rw [hd.out]<;>with_reducible rfl))
            try simp only [zX,zY]
            refine ztk [2,3,4] ?_; repeat (refine ztn (h := ?_); try simp only [zX,zY])
            refine zte ?_
            refine' wpAnyH_take (i := 5) (v := _) rfl (by kernel_rfl) (by kernel_rfl) (by kernel_rfl) (fun _ _ _ h => h) (Or.inl ⟨by rfl, ?hy105⟩) (by assumption) ?rest105
            case hy105 => (intro w hSw; (try dsimp only at hSw); go_simp<;>(rw [jw.out]<;>with_reducible rfl))
            try simp only [zX,zY]
            refine ztk [6,7,8,9,10] ?_; repeat (refine ztn (h := ?_); try simp only [zX,zY])
            refine zte ?_
            refine' wpAnyH_take (i := 11) (v := _) rfl (by kernel_rfl) (by kernel_rfl) (by kernel_rfl) (fun _ _ _ h => h) (Or.inl ⟨by rfl, ?hy111⟩) (by assumption) ?rest111
            case hy111 => (intro w hSw; (try dsimp only at hSw); go_simp<;>(rw [hg.out]<;>with_reducible rfl))
            try simp only [zX,zY]
            refine ztk [12,13,14] ?_; repeat (refine ztn (h := ?_); try simp only [zX,zY])
            refine zte ?_
            refine' wpAnyH_take (i := 15) (v := _) rfl (by kernel_rfl) (by kernel_rfl) (by kernel_rfl) (fun _ _ _ h => h) (Or.inl ⟨by rfl, ?hy115⟩) (by assumption) ?rest115
            case hy115 => (intro w hSw; (try dsimp only at hSw); go_simp<;>(rw [jw.out]<;>with_reducible rfl))
            try simp only [zX,zY]
            refine ztk [16,17,18,19,20] ?_; repeat (refine ztn (h := ?_); try simp only [zX,zY])
            refine zte ?_
            refine' wpAnyH_take (i := 21) (v := _) rfl (by kernel_rfl) (by kernel_rfl) (by kernel_rfl) (fun _ _ _ h => h) (Or.inl ⟨by rfl, ?hy121⟩) (by assumption) ?rest121
            case hy121 => (intro w hSw; (try dsimp only at hSw); go_simp<;>(rw [he.out]<;>with_reducible rfl))
            try simp only [zX,zY]
            refine ztk [22,23,24,25,26,27,28,29,30,31,32,33,34] ?_; repeat ((first | refine ztn (h := ?_) | refine ztu (h := ?_)); try simp only [zX,zY])
            refine zte ?_
            refine zdn ?_
            go_wp2
            exact ⟨⟨n + 1, by go_num, by omega, hA1, hO1, P1.out.drew, B1.drew⟩, by simp [intOf]; omega⟩
  . have e : l.take n = l := List.take_of_length_le (by omega)
    have e2 : n = l.length := by omega
    have hF : Hid ((l.all (makF ro wi) && Qbv l l.length) = true) := by
     show _ = _
     have h1 := hal.out
     have h2 := hO.out
     rw [e] at h1
     rw [e2] at h2
     rw [h1, h2]; rfl
    clear e e2
    go_wp2
    go_ret
    exact ⟨by rw [hF.out]; rfl, hbl⟩
theorem keepB_eq (ro wi le ke : Int) (x : KC) : Qbu ro wi le ke x = (setB ro wi le ke && decide ((x.rs.length : Int) = ro) && decide ((x.gs.length : Int) = 2) && decide ((x.ds.length : Int) = 4) && decide ((x.ls.length : Int) = 4) && inB x.time 0 100000 && (x.ms.all (makF ro wi) && Qbv x.ms x.ms.length) && x.rs.all rowF && x.gs.all (grpF ro) && (Qbt x.ds x.ds.length && x.ls.all ansF)) := by
 unfold Qbu
 ac_rfl
theorem Qdj (ro wi le ke : Int) (x : KC) (ha : KAsk x) (w : World) (hx : KAt w x) :
 Calls Tryz.prog 42 #[.agg #[.int .i64 ro, .int .i64 wi, .int .i64 le, .int .i64 ke], .agg #[.slice x.rA x.rs.length x.rc, .slice x.mA x.ms.length x.mc, .slice x.gA x.gs.length x.gc, .int .i64 x.time, .slice x.dA x.ds.length x.dc, .slice x.lA x.ls.length x.lc]] w fun e w' => e = .returned (.bool (Qbu ro wi le ke x)) /\ Below w.heap.size w w' := by
 obtain ⟨b1, h1⟩ : ∃ b, setB ro wi le ke = b := ⟨_, rfl⟩
 obtain ⟨b2, h2⟩ : ∃ b, decide ((x.rs.length : Int) = ro) = b := ⟨_, rfl⟩
 obtain ⟨b6, h6⟩ : ∃ b, decide ((x.gs.length : Int) = 2) = b := ⟨_, rfl⟩
 obtain ⟨b8, h8⟩ : ∃ b, inB x.time 0 100000 = b := ⟨_, rfl⟩
 obtain ⟨b9, h9⟩ : ∃ b, decide ((x.ds.length : Int) = 4) = b := ⟨_, rfl⟩
 obtain ⟨b11, h11⟩ : ∃ b, decide ((x.ls.length : Int) = 4) = b := ⟨_, rfl⟩
 obtain ⟨b13, h13⟩ : ∃ b, (x.ms.all (makF ro wi) && Qbv x.ms x.ms.length) = b := ⟨_, rfl⟩
 have hF : Hid (Qbu ro wi le ke x = (b1 && b2 && b6 && b9 && b11 && b8 && b13 && x.rs.all rowF && x.gs.all (grpF ro) && (Qbt x.ds x.ds.length && x.ls.all ansF))) := by
  show _ = _
  rw [keepB_eq, h1, h2, h6, h8, h9, h11, h13]
 have q2 : ((x.rs.length : Int) != ro) = !b2 := by rw [← h2]; rfl
 have q6 : ((x.gs.length : Int) != 2) = !b6 := by rw [← h6]; rfl
 have q9 : ((x.ds.length : Int) != 4) = !b9 := by rw [← h9]; rfl
 have q11 : ((x.ls.length : Int) != 4) = !b11 := by rw [← h11]; rfl
 have f := ha.fit
 have E1 : Hid (∀ W : World, Calls Tryz.prog 10 #[.agg #[.int .i64 ro, .int .i64 wi, .int .i64 le, .int .i64 ke]] W fun e w' => e = .returned (.bool b1) /\ Below W.heap.size W w') := fun W => h1 ▸ Qa7 ro wi le ke W
 have E8 : Hid (∀ W : World, Calls Tryz.prog 11 #[.int .i64 x.time, .int .i64 0, .int .i64 100000] W fun e w' => e = .returned (.bool b8) /\ w' = W) := fun W => h8 ▸ in_any _ _ _ W
 have E13 : Hid (∀ W : World, Below w.heap.size w W -> Calls Tryz.prog 80 #[.agg #[.int .i64 ro, .int .i64 wi, .int .i64 le, .int .i64 ke], .slice x.mA x.ms.length x.mc] W fun e w' => e = .returned (.bool b13) /\ Below W.heap.size W w') := fun W g => h13 ▸ Qfp ro wi le ke _ _ x.ms f.ml f.mi W (hx.below g).ma (hx.below g).me
 have HX := hidP hx
 have Ha := hidP ha
 have H2 := hidP h2
 have H6 := hidP h6
 have H9 := hidP h9
 have H11 := hidP h11
 clear h1 h2 h6 h8 h9 h11 h13 f hx ha
 cases b1
 case false =>
  have hF : Hid (Qbu ro wi le ke x = false) := by show _ = _; rw [hF.out]; simp
  go_enter Tryz.func42, Tryz.ntmps42
  have B : Below w.heap.size w ((w.alloc (.cells #[.int .i64 ro, .int .i64 wi, .int .i64 le, .int .i64 ke] 45)).alloc (.cells #[.slice x.rA x.rs.length x.rc, .slice x.mA x.ms.length x.mc, .slice x.gA x.gs.length x.gc, .int .i64 x.time, .slice x.dA x.ds.length x.dc, .slice x.lA x.ls.length x.lc] 33)) := Qaa (Qaa (Below.refl _ _) _) _
  have P : Blk ((w.alloc (.cells #[.int .i64 ro, .int .i64 wi, .int .i64 le, .int .i64 ke] 45)).alloc (.cells #[.slice x.rA x.rs.length x.rc, .slice x.mA x.ms.length x.mc, .slice x.gA x.gs.length x.gc, .int .i64 x.time, .slice x.dA x.ds.length x.dc, .slice x.lA x.ls.length x.lc] 33)) w.heap.size 45 #[.int .i64 ro, .int .i64 wi, .int .i64 le, .int .i64 ke] := (Blk.new w _ _).alloc _
  have R : Blk ((w.alloc (.cells #[.int .i64 ro, .int .i64 wi, .int .i64 le, .int .i64 ke] 45)).alloc (.cells #[.slice x.rA x.rs.length x.rc, .slice x.mA x.ms.length x.mc, .slice x.gA x.gs.length x.gc, .int .i64 x.time, .slice x.dA x.ds.length x.dc, .slice x.lA x.ls.length x.lc] 33)) (w.heap.size + 1) 33 #[.slice x.rA x.rs.length x.rc, .slice x.mA x.ms.length x.mc, .slice x.gA x.gs.length x.gc, .int .i64 x.time, .slice x.dA x.ds.length x.dc, .slice x.lA x.ls.length x.lc] := by have := Blk.new (w.alloc (.cells #[.int .i64 ro, .int .i64 wi, .int .i64 le, .int .i64 ke] 45)) 33 #[.slice x.rA x.rs.length x.rc, .slice x.mA x.ms.length x.mc, .slice x.gA x.gs.length x.gc, .int .i64 x.time, .slice x.dA x.ds.length x.dc, .slice x.lA x.ls.length x.lc]; rwa [World.size_alloc] at this
  go_wp2_with fail
  refine (E1.out _).mono ?_
  rintro e w1 ⟨rfl, g⟩
  replace B := via0 g B
  replace P := P.below g P.lt
  replace R := R.below g R.lt
  clear g
  obtain ⟨u0, u1, u2, u3⟩ := P.row4
  obtain ⟨v0, v1, v2, v3, v4, v5⟩ := R.row6
  have q1 := P.lt
  have q2 := R.lt
  go_wp2
  go_ret
  exact ⟨by rw [hF.out]; rfl, B⟩
 cases b2
 case false =>
  have hF : Hid (Qbu ro wi le ke x = false) := by show _ = _; rw [hF.out]; simp
  go_enter Tryz.func42, Tryz.ntmps42
  have B : Below w.heap.size w ((w.alloc (.cells #[.int .i64 ro, .int .i64 wi, .int .i64 le, .int .i64 ke] 45)).alloc (.cells #[.slice x.rA x.rs.length x.rc, .slice x.mA x.ms.length x.mc, .slice x.gA x.gs.length x.gc, .int .i64 x.time, .slice x.dA x.ds.length x.dc, .slice x.lA x.ls.length x.lc] 33)) := Qaa (Qaa (Below.refl _ _) _) _
  have P : Blk ((w.alloc (.cells #[.int .i64 ro, .int .i64 wi, .int .i64 le, .int .i64 ke] 45)).alloc (.cells #[.slice x.rA x.rs.length x.rc, .slice x.mA x.ms.length x.mc, .slice x.gA x.gs.length x.gc, .int .i64 x.time, .slice x.dA x.ds.length x.dc, .slice x.lA x.ls.length x.lc] 33)) w.heap.size 45 #[.int .i64 ro, .int .i64 wi, .int .i64 le, .int .i64 ke] := (Blk.new w _ _).alloc _
  have R : Blk ((w.alloc (.cells #[.int .i64 ro, .int .i64 wi, .int .i64 le, .int .i64 ke] 45)).alloc (.cells #[.slice x.rA x.rs.length x.rc, .slice x.mA x.ms.length x.mc, .slice x.gA x.gs.length x.gc, .int .i64 x.time, .slice x.dA x.ds.length x.dc, .slice x.lA x.ls.length x.lc] 33)) (w.heap.size + 1) 33 #[.slice x.rA x.rs.length x.rc, .slice x.mA x.ms.length x.mc, .slice x.gA x.gs.length x.gc, .int .i64 x.time, .slice x.dA x.ds.length x.dc, .slice x.lA x.ls.length x.lc] := by have := Blk.new (w.alloc (.cells #[.int .i64 ro, .int .i64 wi, .int .i64 le, .int .i64 ke] 45)) 33 #[.slice x.rA x.rs.length x.rc, .slice x.mA x.ms.length x.mc, .slice x.gA x.gs.length x.gc, .int .i64 x.time, .slice x.dA x.ds.length x.dc, .slice x.lA x.ls.length x.lc]; rwa [World.size_alloc] at this
  go_wp2_with fail
  refine (E1.out _).mono ?_
  rintro e w1 ⟨rfl, g⟩
  replace B := via0 g B
  replace P := P.below g P.lt
  replace R := R.below g R.lt
  clear g
  obtain ⟨u0, u1, u2, u3⟩ := P.row4
  obtain ⟨v0, v1, v2, v3, v4, v5⟩ := R.row6
  have q1 := P.lt
  have q2 := R.lt
  go_wp2
  go_ret
  exact ⟨by rw [hF.out]; rfl, B⟩
 cases b6
 case false =>
  have hF : Hid (Qbu ro wi le ke x = false) := by show _ = _; rw [hF.out]; simp
  go_enter Tryz.func42, Tryz.ntmps42
  have B : Below w.heap.size w ((w.alloc (.cells #[.int .i64 ro, .int .i64 wi, .int .i64 le, .int .i64 ke] 45)).alloc (.cells #[.slice x.rA x.rs.length x.rc, .slice x.mA x.ms.length x.mc, .slice x.gA x.gs.length x.gc, .int .i64 x.time, .slice x.dA x.ds.length x.dc, .slice x.lA x.ls.length x.lc] 33)) := Qaa (Qaa (Below.refl _ _) _) _
  have P : Blk ((w.alloc (.cells #[.int .i64 ro, .int .i64 wi, .int .i64 le, .int .i64 ke] 45)).alloc (.cells #[.slice x.rA x.rs.length x.rc, .slice x.mA x.ms.length x.mc, .slice x.gA x.gs.length x.gc, .int .i64 x.time, .slice x.dA x.ds.length x.dc, .slice x.lA x.ls.length x.lc] 33)) w.heap.size 45 #[.int .i64 ro, .int .i64 wi, .int .i64 le, .int .i64 ke] := (Blk.new w _ _).alloc _
  have R : Blk ((w.alloc (.cells #[.int .i64 ro, .int .i64 wi, .int .i64 le, .int .i64 ke] 45)).alloc (.cells #[.slice x.rA x.rs.length x.rc, .slice x.mA x.ms.length x.mc, .slice x.gA x.gs.length x.gc, .int .i64 x.time, .slice x.dA x.ds.length x.dc, .slice x.lA x.ls.length x.lc] 33)) (w.heap.size + 1) 33 #[.slice x.rA x.rs.length x.rc, .slice x.mA x.ms.length x.mc, .slice x.gA x.gs.length x.gc, .int .i64 x.time, .slice x.dA x.ds.length x.dc, .slice x.lA x.ls.length x.lc] := by have := Blk.new (w.alloc (.cells #[.int .i64 ro, .int .i64 wi, .int .i64 le, .int .i64 ke] 45)) 33 #[.slice x.rA x.rs.length x.rc, .slice x.mA x.ms.length x.mc, .slice x.gA x.gs.length x.gc, .int .i64 x.time, .slice x.dA x.ds.length x.dc, .slice x.lA x.ls.length x.lc]; rwa [World.size_alloc] at this
  go_wp2_with fail
  refine (E1.out _).mono ?_
  rintro e w1 ⟨rfl, g⟩
  replace B := via0 g B
  replace P := P.below g P.lt
  replace R := R.below g R.lt
  clear g
  obtain ⟨u0, u1, u2, u3⟩ := P.row4
  obtain ⟨v0, v1, v2, v3, v4, v5⟩ := R.row6
  have q1 := P.lt
  have q2 := R.lt
  go_wp2
  go_ret
  exact ⟨by rw [hF.out]; rfl, B⟩
 cases b9
 case false =>
  have hF : Hid (Qbu ro wi le ke x = false) := by show _ = _; rw [hF.out]; simp
  go_enter Tryz.func42, Tryz.ntmps42
  have B : Below w.heap.size w ((w.alloc (.cells #[.int .i64 ro, .int .i64 wi, .int .i64 le, .int .i64 ke] 45)).alloc (.cells #[.slice x.rA x.rs.length x.rc, .slice x.mA x.ms.length x.mc, .slice x.gA x.gs.length x.gc, .int .i64 x.time, .slice x.dA x.ds.length x.dc, .slice x.lA x.ls.length x.lc] 33)) := Qaa (Qaa (Below.refl _ _) _) _
  have P : Blk ((w.alloc (.cells #[.int .i64 ro, .int .i64 wi, .int .i64 le, .int .i64 ke] 45)).alloc (.cells #[.slice x.rA x.rs.length x.rc, .slice x.mA x.ms.length x.mc, .slice x.gA x.gs.length x.gc, .int .i64 x.time, .slice x.dA x.ds.length x.dc, .slice x.lA x.ls.length x.lc] 33)) w.heap.size 45 #[.int .i64 ro, .int .i64 wi, .int .i64 le, .int .i64 ke] := (Blk.new w _ _).alloc _
  have R : Blk ((w.alloc (.cells #[.int .i64 ro, .int .i64 wi, .int .i64 le, .int .i64 ke] 45)).alloc (.cells #[.slice x.rA x.rs.length x.rc, .slice x.mA x.ms.length x.mc, .slice x.gA x.gs.length x.gc, .int .i64 x.time, .slice x.dA x.ds.length x.dc, .slice x.lA x.ls.length x.lc] 33)) (w.heap.size + 1) 33 #[.slice x.rA x.rs.length x.rc, .slice x.mA x.ms.length x.mc, .slice x.gA x.gs.length x.gc, .int .i64 x.time, .slice x.dA x.ds.length x.dc, .slice x.lA x.ls.length x.lc] := by have := Blk.new (w.alloc (.cells #[.int .i64 ro, .int .i64 wi, .int .i64 le, .int .i64 ke] 45)) 33 #[.slice x.rA x.rs.length x.rc, .slice x.mA x.ms.length x.mc, .slice x.gA x.gs.length x.gc, .int .i64 x.time, .slice x.dA x.ds.length x.dc, .slice x.lA x.ls.length x.lc]; rwa [World.size_alloc] at this
  go_wp2_with fail
  refine (E1.out _).mono ?_
  rintro e w1 ⟨rfl, g⟩
  replace B := via0 g B
  replace P := P.below g P.lt
  replace R := R.below g R.lt
  clear g
  obtain ⟨u0, u1, u2, u3⟩ := P.row4
  obtain ⟨v0, v1, v2, v3, v4, v5⟩ := R.row6
  have q1 := P.lt
  have q2 := R.lt
  go_wp2
  go_ret
  exact ⟨by rw [hF.out]; rfl, B⟩
 cases b11
 case false =>
  have hF : Hid (Qbu ro wi le ke x = false) := by show _ = _; rw [hF.out]; simp
  go_enter Tryz.func42, Tryz.ntmps42
  have B : Below w.heap.size w ((w.alloc (.cells #[.int .i64 ro, .int .i64 wi, .int .i64 le, .int .i64 ke] 45)).alloc (.cells #[.slice x.rA x.rs.length x.rc, .slice x.mA x.ms.length x.mc, .slice x.gA x.gs.length x.gc, .int .i64 x.time, .slice x.dA x.ds.length x.dc, .slice x.lA x.ls.length x.lc] 33)) := Qaa (Qaa (Below.refl _ _) _) _
  have P : Blk ((w.alloc (.cells #[.int .i64 ro, .int .i64 wi, .int .i64 le, .int .i64 ke] 45)).alloc (.cells #[.slice x.rA x.rs.length x.rc, .slice x.mA x.ms.length x.mc, .slice x.gA x.gs.length x.gc, .int .i64 x.time, .slice x.dA x.ds.length x.dc, .slice x.lA x.ls.length x.lc] 33)) w.heap.size 45 #[.int .i64 ro, .int .i64 wi, .int .i64 le, .int .i64 ke] := (Blk.new w _ _).alloc _
  have R : Blk ((w.alloc (.cells #[.int .i64 ro, .int .i64 wi, .int .i64 le, .int .i64 ke] 45)).alloc (.cells #[.slice x.rA x.rs.length x.rc, .slice x.mA x.ms.length x.mc, .slice x.gA x.gs.length x.gc, .int .i64 x.time, .slice x.dA x.ds.length x.dc, .slice x.lA x.ls.length x.lc] 33)) (w.heap.size + 1) 33 #[.slice x.rA x.rs.length x.rc, .slice x.mA x.ms.length x.mc, .slice x.gA x.gs.length x.gc, .int .i64 x.time, .slice x.dA x.ds.length x.dc, .slice x.lA x.ls.length x.lc] := by have := Blk.new (w.alloc (.cells #[.int .i64 ro, .int .i64 wi, .int .i64 le, .int .i64 ke] 45)) 33 #[.slice x.rA x.rs.length x.rc, .slice x.mA x.ms.length x.mc, .slice x.gA x.gs.length x.gc, .int .i64 x.time, .slice x.dA x.ds.length x.dc, .slice x.lA x.ls.length x.lc]; rwa [World.size_alloc] at this
  go_wp2_with fail
  refine (E1.out _).mono ?_
  rintro e w1 ⟨rfl, g⟩
  replace B := via0 g B
  replace P := P.below g P.lt
  replace R := R.below g R.lt
  clear g
  obtain ⟨u0, u1, u2, u3⟩ := P.row4
  obtain ⟨v0, v1, v2, v3, v4, v5⟩ := R.row6
  have q1 := P.lt
  have q2 := R.lt
  go_wp2
  go_ret
  exact ⟨by rw [hF.out]; rfl, B⟩
 cases b8
 case false =>
  have hF : Hid (Qbu ro wi le ke x = false) := by show _ = _; rw [hF.out]; simp
  go_enter Tryz.func42, Tryz.ntmps42
  have B : Below w.heap.size w ((w.alloc (.cells #[.int .i64 ro, .int .i64 wi, .int .i64 le, .int .i64 ke] 45)).alloc (.cells #[.slice x.rA x.rs.length x.rc, .slice x.mA x.ms.length x.mc, .slice x.gA x.gs.length x.gc, .int .i64 x.time, .slice x.dA x.ds.length x.dc, .slice x.lA x.ls.length x.lc] 33)) := Qaa (Qaa (Below.refl _ _) _) _
  have P : Blk ((w.alloc (.cells #[.int .i64 ro, .int .i64 wi, .int .i64 le, .int .i64 ke] 45)).alloc (.cells #[.slice x.rA x.rs.length x.rc, .slice x.mA x.ms.length x.mc, .slice x.gA x.gs.length x.gc, .int .i64 x.time, .slice x.dA x.ds.length x.dc, .slice x.lA x.ls.length x.lc] 33)) w.heap.size 45 #[.int .i64 ro, .int .i64 wi, .int .i64 le, .int .i64 ke] := (Blk.new w _ _).alloc _
  have R : Blk ((w.alloc (.cells #[.int .i64 ro, .int .i64 wi, .int .i64 le, .int .i64 ke] 45)).alloc (.cells #[.slice x.rA x.rs.length x.rc, .slice x.mA x.ms.length x.mc, .slice x.gA x.gs.length x.gc, .int .i64 x.time, .slice x.dA x.ds.length x.dc, .slice x.lA x.ls.length x.lc] 33)) (w.heap.size + 1) 33 #[.slice x.rA x.rs.length x.rc, .slice x.mA x.ms.length x.mc, .slice x.gA x.gs.length x.gc, .int .i64 x.time, .slice x.dA x.ds.length x.dc, .slice x.lA x.ls.length x.lc] := by have := Blk.new (w.alloc (.cells #[.int .i64 ro, .int .i64 wi, .int .i64 le, .int .i64 ke] 45)) 33 #[.slice x.rA x.rs.length x.rc, .slice x.mA x.ms.length x.mc, .slice x.gA x.gs.length x.gc, .int .i64 x.time, .slice x.dA x.ds.length x.dc, .slice x.lA x.ls.length x.lc]; rwa [World.size_alloc] at this
  go_wp2_with fail
  refine (E1.out _).mono ?_
  rintro e w1 ⟨rfl, g⟩
  replace B := via0 g B
  replace P := P.below g P.lt
  replace R := R.below g R.lt
  clear g
  obtain ⟨u0, u1, u2, u3⟩ := P.row4
  obtain ⟨v0, v1, v2, v3, v4, v5⟩ := R.row6
  have q1 := P.lt
  have q2 := R.lt
  go_wp2_with fail
  refine (E8.out _).mono ?_
  rintro e w8 ⟨rfl, rfl⟩
  go_wp2
  go_ret
  exact ⟨by rw [hF.out]; rfl, B⟩
 cases b13
 case false =>
  have hF : Hid (Qbu ro wi le ke x = false) := by show _ = _; rw [hF.out]; simp
  go_enter Tryz.func42, Tryz.ntmps42
  have B : Below w.heap.size w ((w.alloc (.cells #[.int .i64 ro, .int .i64 wi, .int .i64 le, .int .i64 ke] 45)).alloc (.cells #[.slice x.rA x.rs.length x.rc, .slice x.mA x.ms.length x.mc, .slice x.gA x.gs.length x.gc, .int .i64 x.time, .slice x.dA x.ds.length x.dc, .slice x.lA x.ls.length x.lc] 33)) := Qaa (Qaa (Below.refl _ _) _) _
  have P : Blk ((w.alloc (.cells #[.int .i64 ro, .int .i64 wi, .int .i64 le, .int .i64 ke] 45)).alloc (.cells #[.slice x.rA x.rs.length x.rc, .slice x.mA x.ms.length x.mc, .slice x.gA x.gs.length x.gc, .int .i64 x.time, .slice x.dA x.ds.length x.dc, .slice x.lA x.ls.length x.lc] 33)) w.heap.size 45 #[.int .i64 ro, .int .i64 wi, .int .i64 le, .int .i64 ke] := (Blk.new w _ _).alloc _
  have R : Blk ((w.alloc (.cells #[.int .i64 ro, .int .i64 wi, .int .i64 le, .int .i64 ke] 45)).alloc (.cells #[.slice x.rA x.rs.length x.rc, .slice x.mA x.ms.length x.mc, .slice x.gA x.gs.length x.gc, .int .i64 x.time, .slice x.dA x.ds.length x.dc, .slice x.lA x.ls.length x.lc] 33)) (w.heap.size + 1) 33 #[.slice x.rA x.rs.length x.rc, .slice x.mA x.ms.length x.mc, .slice x.gA x.gs.length x.gc, .int .i64 x.time, .slice x.dA x.ds.length x.dc, .slice x.lA x.ls.length x.lc] := by have := Blk.new (w.alloc (.cells #[.int .i64 ro, .int .i64 wi, .int .i64 le, .int .i64 ke] 45)) 33 #[.slice x.rA x.rs.length x.rc, .slice x.mA x.ms.length x.mc, .slice x.gA x.gs.length x.gc, .int .i64 x.time, .slice x.dA x.ds.length x.dc, .slice x.lA x.ls.length x.lc]; rwa [World.size_alloc] at this
  go_wp2_with fail
  refine (E1.out _).mono ?_
  rintro e w1 ⟨rfl, g⟩
  replace B := via0 g B
  replace P := P.below g P.lt
  replace R := R.below g R.lt
  clear g
  obtain ⟨u0, u1, u2, u3⟩ := P.row4
  obtain ⟨v0, v1, v2, v3, v4, v5⟩ := R.row6
  have q1 := P.lt
  have q2 := R.lt
  go_wp2_with fail
  refine (E8.out _).mono ?_
  rintro e w8 ⟨rfl, rfl⟩
  go_wp2_with fail
  refine (E13.out _ B).mono ?_
  rintro e w13 ⟨rfl, g⟩
  replace B := via0 g B
  replace P := P.below g P.lt
  replace R := R.below g R.lt
  clear g u0 u1 u2 u3 v0 v1 v2 v3 v4 v5 q1 q2
  obtain ⟨u0, u1, u2, u3⟩ := P.row4
  obtain ⟨v0, v1, v2, v3, v4, v5⟩ := R.row6
  have q1 := P.lt
  have q2 := R.lt
  go_wp2
  go_ret
  exact ⟨by rw [hF.out]; rfl, B⟩
 obtain ⟨nr, hnr⟩ : ∃ m, x.rs.length = m := ⟨_, rfl⟩
 have hro : ro = (nr : Int) := by have := of_decide_eq_true H2.out; omega
 have hg2 : Hid (x.gs.length = 2) := by have := of_decide_eq_true H6.out; show _ = _; omega
 have hd4 : Hid (x.ds.length = 4) := by have := of_decide_eq_true H9.out; show _ = _; omega
 have hl4 : Hid (x.ls.length = 4) := by have := of_decide_eq_true H11.out; show _ = _; omega
 have hFl : Hid (Qbu ro wi le ke x = (x.rs.all rowF && x.gs.all (grpF ro) && (Qbt x.ds x.ds.length && x.ls.all ansF))) := by show _ = _; rw [hF.out]; simp
 have Hnr := hidP hnr
 have hnb : nr <= 1048576 := by have := Ha.out.fit.rl; omega
 subst hro
 clear hF hnr H2 H6 H9 H11
 go_enter Tryz.func42, Tryz.ntmps42
 have B : Below w.heap.size w ((w.alloc (.cells #[.int .i64 (nr : Int), .int .i64 wi, .int .i64 le, .int .i64 ke] 45)).alloc (.cells #[.slice x.rA x.rs.length x.rc, .slice x.mA x.ms.length x.mc, .slice x.gA x.gs.length x.gc, .int .i64 x.time, .slice x.dA x.ds.length x.dc, .slice x.lA x.ls.length x.lc] 33)) := Qaa (Qaa (Below.refl _ _) _) _
 have P : Blk ((w.alloc (.cells #[.int .i64 (nr : Int), .int .i64 wi, .int .i64 le, .int .i64 ke] 45)).alloc (.cells #[.slice x.rA x.rs.length x.rc, .slice x.mA x.ms.length x.mc, .slice x.gA x.gs.length x.gc, .int .i64 x.time, .slice x.dA x.ds.length x.dc, .slice x.lA x.ls.length x.lc] 33)) w.heap.size 45 #[.int .i64 (nr : Int), .int .i64 wi, .int .i64 le, .int .i64 ke] := (Blk.new w _ _).alloc _
 have R : Blk ((w.alloc (.cells #[.int .i64 (nr : Int), .int .i64 wi, .int .i64 le, .int .i64 ke] 45)).alloc (.cells #[.slice x.rA x.rs.length x.rc, .slice x.mA x.ms.length x.mc, .slice x.gA x.gs.length x.gc, .int .i64 x.time, .slice x.dA x.ds.length x.dc, .slice x.lA x.ls.length x.lc] 33)) (w.heap.size + 1) 33 #[.slice x.rA x.rs.length x.rc, .slice x.mA x.ms.length x.mc, .slice x.gA x.gs.length x.gc, .int .i64 x.time, .slice x.dA x.ds.length x.dc, .slice x.lA x.ls.length x.lc] := by have := Blk.new (w.alloc (.cells #[.int .i64 (nr : Int), .int .i64 wi, .int .i64 le, .int .i64 ke] 45)) 33 #[.slice x.rA x.rs.length x.rc, .slice x.mA x.ms.length x.mc, .slice x.gA x.gs.length x.gc, .int .i64 x.time, .slice x.dA x.ds.length x.dc, .slice x.lA x.ls.length x.lc]; rwa [World.size_alloc] at this
 go_wp2_with fail
 refine (E1.out _).mono ?_
 rintro e w1 ⟨rfl, g⟩
 replace B := via0 g B
 replace P := P.below g P.lt
 replace R := R.below g R.lt
 clear g
 obtain ⟨u0, u1, u2, u3⟩ := P.row4
 obtain ⟨v0, v1, v2, v3, v4, v5⟩ := R.row6
 have q1 := P.lt
 have q2 := R.lt
 go_wp2_with fail
 refine (E8.out _).mono ?_
 rintro e w8 ⟨rfl, rfl⟩
 go_wp2_with fail
 refine (E13.out _ B).mono ?_
 rintro e w13 ⟨rfl, g⟩
 replace B := via0 g B
 replace P := P.below g P.lt
 replace R := R.below g R.lt
 clear g u0 u1 u2 u3 v0 v1 v2 v3 v4 v5 q1 q2
 obtain ⟨u0, u1, u2, u3⟩ := P.row4
 obtain ⟨v0, v1, v2, v3, v4, v5⟩ := R.row6
 have q1 := P.lt
 have q2 := R.lt
 have HP := hidP P
 have HR := hidP R
 clear P R u0 u1 u2 u3 v0 v1 v2 v3 v4 v5 q1 q2 q6 q9 q11 E1 E8 E13
 go_wp2
 go_loopw [5] (fun i w' => ∃ (n : Nat), i = .int .i64 (n : Int) /\ n <= nr /\ Hid ((x.rs.take n).all rowF = true) /\ Hid (Blk w' w.heap.size 45 #[.int .i64 (nr : Int), .int .i64 wi, .int .i64 le, .int .i64 ke]) /\ Hid (Blk w' (w.heap.size + 1) 33 #[.slice x.rA x.rs.length x.rc, .slice x.mA x.ms.length x.mc, .slice x.gA x.gs.length x.gc, .int .i64 x.time, .slice x.dA x.ds.length x.dc, .slice x.lA x.ls.length x.lc]) /\ Below w.heap.size w w') (fun i _ => nr - (intOf i).toNat)
 case atStart => exact ⟨0, rfl, by omega, rfl, HP, HR, B⟩
 case round =>
  obtain ⟨n, rfl, hn, hal, HP, HR, B⟩ := hrel
  obtain ⟨u0, u1, u2, u3⟩ := HP.out.row4
  obtain ⟨v0, v1, v2, v3, v4, v5⟩ := HR.out.row6
  have q1 := HP.out.lt
  have q2 := HR.out.lt
  by_cases hlt' : n < nr
  . have hlt : n < x.rs.length := by have := Hnr.out; omega
    have hi0 : (0 : Int) <= (n : Int) := by omega
    have hi1 : (n : Int) < (x.rs.length : Int) := by omega
    obtain ⟨b, o, hbo, hbs, hIn⟩ : ∃ b o, x.rA = some ⟨b, o, none⟩ /\ b < w.heap.size /\ In w b o x.rs := by
     rcases HX.out.ra with h | h
     . rw [h] at hlt; simp at hlt
     . exact h
    obtain ⟨c0, c1, c2⟩ := (hIn.below hbs B).getRC n hlt
    rw [hbo] at v0
    have hri := Ha.out.rr _ (List.getElem_mem hlt)
    have HC : ∀ W : World, Below wr.heap.size wr W -> Calls Tryz.prog 81 #[.agg #[.int .i64 x.rs[n].start, .int .i64 x.rs[n].next, .slice x.rs[n].A x.rs[n].its.length x.rs[n].cap]] W fun e w' => e = .returned (.bool (rowF x.rs[n])) /\ Below W.heap.size W w' := fun W g => Items.specRowOk_any _ _ _ _ _ hri.2.2.1 (fun y hy => (hri.2.2.2 y hy).2.2.2) hri.2.1.1 hri.2.1.2 W (((HX.out.re _ (List.getElem_mem hlt)).below B).below g)
    have hsu := Qby rowF hlt
    have hno := Qde rowF hlt
    generalize hb : rowF x.rs[n] = bb at HC hsu hno
    have HC := hidP HC
    clear hb hri hbo
    have qb : b < wr.heap.size := Nat.lt_of_lt_of_le hbs B.size
    cases bb
    . have hF : Hid (Qbu (nr : Int) wi le ke x = false) := by show _ = _; rw [hFl.out, hno rfl]; rfl
      clear hno hsu
      go_wp2_with fail
      refine (HC.out _ (Below.refl _ _)).mono ?_
      rintro e w1 ⟨rfl, g1⟩
      go_wp2
      go_ret
      exact ⟨by rw [hF.out]; rfl, via0 g1 B⟩
    . have hal1 : Hid ((x.rs.take (n + 1)).all rowF = true) := by show _ = _; rw [hsu, hal.out]; rfl
      clear hno hsu
      go_wp2_with fail
      refine (HC.out _ (Below.refl _ _)).mono ?_
      rintro e w1 ⟨rfl, g1⟩
      have HP1 := hidP (HP.out.below g1 q1)
      have HR1 := hidP (HR.out.below g1 q2)
      go_wp2
      exact ⟨⟨n + 1, by go_num, by omega, hal1, HP1, HR1, via0 g1 B⟩, by simp [intOf]; omega⟩
  . have hR : Hid (x.rs.all rowF = true) := by
     have h := hal.out
     rw [List.take_of_length_le (by have := Hnr.out; omega)] at h
     exact h
    clear hal
    go_wp2
    clear u0 u1 u2 u3 v0 v1 v2 v3 v4 v5 q1 q2
    go_loopw [6] (fun i w' => ∃ (n : Nat), i = .int .i64 (n : Int) /\ n <= 2 /\ Hid ((x.gs.take n).all (grpF (nr : Int)) = true) /\ Hid (Blk w' w.heap.size 45 #[.int .i64 (nr : Int), .int .i64 wi, .int .i64 le, .int .i64 ke]) /\ Hid (Blk w' (w.heap.size + 1) 33 #[.slice x.rA x.rs.length x.rc, .slice x.mA x.ms.length x.mc, .slice x.gA x.gs.length x.gc, .int .i64 x.time, .slice x.dA x.ds.length x.dc, .slice x.lA x.ls.length x.lc]) /\ Below w.heap.size w w') (fun i _ => 2 - (intOf i).toNat)
    case atStart => exact ⟨0, rfl, by omega, rfl, HP, HR, B⟩
    case round =>
     obtain ⟨n, rfl, hn, hal, HP, HR, B⟩ := hrel
     obtain ⟨u0, u1, u2, u3⟩ := HP.out.row4
     obtain ⟨v0, v1, v2, v3, v4, v5⟩ := HR.out.row6
     have q1 := HP.out.lt
     have q2 := HR.out.lt
     by_cases hlt' : n < 2
     . have hlt : n < x.gs.length := by have := hg2.out; omega
       have hi0 : (0 : Int) <= (n : Int) := by omega
       have hi1 : (n : Int) < (x.gs.length : Int) := by omega
       obtain ⟨b, o, hbo, hbs, hIn⟩ : ∃ b o, x.gA = some ⟨b, o, none⟩ /\ b < w.heap.size /\ In w b o x.gs := by
        rcases HX.out.ga with h | h
        . rw [h] at hlt; simp at hlt
        . exact h
       obtain ⟨c0, c1, c2, c3⟩ := (hIn.below hbs B).getGC n hlt
       rw [hbo] at v2
       have HC : ∀ W : World, Below wr.heap.size wr W -> Calls Tryz.prog 82 #[.agg #[.int .i64 x.gs[n].gen, .slice x.gs[n].a1 x.gs[n].m.length x.gs[n].c1, .slice x.gs[n].a2 x.gs[n].b.length x.gs[n].c2, .slice x.gs[n].a3 x.gs[n].o.length x.gs[n].c3], .int .i64 (nr : Int)] W fun e w' => e = .returned (.bool (grpF (nr : Int) x.gs[n])) /\ Below W.heap.size W w' := fun W g => by
        have h3 := ((HX.out.ge _ (List.getElem_mem hlt)).below B).below g
        exact Qju _ _ _ _ _ _ _ _ _ _ _ (Ha.out.fit.gi _ (List.getElem_mem hlt)) W h3.1 h3.2.1 h3.2.2
       have hsu := Qby (grpF (nr : Int)) hlt
       have hno := Qde (grpF (nr : Int)) hlt
       generalize hb : grpF (nr : Int) x.gs[n] = bb at HC hsu hno
       generalize x.gs[n] = y at c0 c1 c2 c3 HC
       have HC := hidP HC
       clear hb hbo
       have qb : b < wr.heap.size := Nat.lt_of_lt_of_le hbs B.size
       cases bb
       . have hF : Hid (Qbu (nr : Int) wi le ke x = false) := by show _ = _; rw [hFl.out, hno rfl, hR.out]; rfl
         clear hno hsu
         go_wp2_with fail
         refine wp_region_noPanic ?_
         refine wp_region_held_drew (S := (fun w' => w'.cell? ⟨w.heap.size + 1, 2, none⟩ = some (.slice (some ⟨b, o, none⟩) x.gs.length x.gc) /\ w'.cell? ⟨b, o + n * 4, none⟩ = some (.int .i64 y.gen) /\ w'.cell? ⟨b, o + n * 4 + 1, none⟩ = some (.slice y.a1 y.m.length y.c1) /\ w'.cell? ⟨b, o + n * 4 + 2, none⟩ = some (.slice y.a2 y.b.length y.c2) /\ w'.cell? ⟨b, o + n * 4 + 3, none⟩ = some (.slice y.a3 y.o.length y.c3) /\ w'.cell? ⟨w.heap.size, 0, none⟩ = some (.int .i64 (nr : Int)))) (by kernel_rfl) ?_ (fun hH => ?_)
         . (refine ⟨?_, ?_, ?_, ?_, ?_, ?_⟩<;>assumption)
         refine ztk [0,1,2,3,4,5,6] ?_; repeat (refine ztn (h := ?_); try simp only [zX,zY])
         refine zte ?_
         refine zR1 7 (fun K hK => ?_)
         simp only [zG]
         go_simp
         (go_at_call 82; refine (HC.out _ (Below.drew (Below.refl _ _))).mono ?_; rintro e w1 ⟨rfl, g1⟩; obtain ⟨k1, m1⟩ := Qaj g1; have HG1 := hidP g1)
         refine hK.out _ _ ?_ (fun hH => ?_)
         . (go_split_ands; exact ⟨(k1 _ _ q2).trans (by assumption), (k1 _ _ qb).trans (by assumption), (k1 _ _ qb).trans (by assumption), (k1 _ _ qb).trans (by assumption), (k1 _ _ qb).trans (by assumption), (k1 _ _ q1).trans (by assumption)⟩)
         clear hK K
         try simp only [zX,zY]
         refine zt1 8 ?_; refine ztn (h := ?_); try simp only [zX,zY]
         refine zte ?_
         refine zdn ?_
         go_wp2
         go_ret
         exact ⟨by rw [hF.out]; rfl, via0 HG1.out B.drew⟩
       . have hal1 : Hid ((x.gs.take (n + 1)).all (grpF (nr : Int)) = true) := by show _ = _; rw [hsu, hal.out]; rfl
         clear hno hsu
         go_wp2_with fail
         refine wp_region_noPanic ?_
         refine wp_region_held_drew (S := (fun w' => w'.cell? ⟨w.heap.size + 1, 2, none⟩ = some (.slice (some ⟨b, o, none⟩) x.gs.length x.gc) /\ w'.cell? ⟨b, o + n * 4, none⟩ = some (.int .i64 y.gen) /\ w'.cell? ⟨b, o + n * 4 + 1, none⟩ = some (.slice y.a1 y.m.length y.c1) /\ w'.cell? ⟨b, o + n * 4 + 2, none⟩ = some (.slice y.a2 y.b.length y.c2) /\ w'.cell? ⟨b, o + n * 4 + 3, none⟩ = some (.slice y.a3 y.o.length y.c3) /\ w'.cell? ⟨w.heap.size, 0, none⟩ = some (.int .i64 (nr : Int)))) (by kernel_rfl) ?_ (fun hH => ?_)
         . (refine ⟨?_, ?_, ?_, ?_, ?_, ?_⟩<;>assumption)
         refine ztk [0,1,2,3,4,5,6] ?_; repeat (refine ztn (h := ?_); try simp only [zX,zY])
         refine zte ?_
         refine zR1 7 (fun K hK => ?_)
         simp only [zG]
         go_simp
         (go_at_call 82; refine (HC.out _ (Below.drew (Below.refl _ _))).mono ?_; rintro e w1 ⟨rfl, g1⟩; obtain ⟨k1, m1⟩ := Qaj g1; have HG1 := hidP g1)
         refine hK.out _ _ ?_ (fun hH => ?_)
         . (go_split_ands; exact ⟨(k1 _ _ q2).trans (by assumption), (k1 _ _ qb).trans (by assumption), (k1 _ _ qb).trans (by assumption), (k1 _ _ qb).trans (by assumption), (k1 _ _ qb).trans (by assumption), (k1 _ _ q1).trans (by assumption)⟩)
         clear hK K
         try simp only [zX,zY]
         refine zt1 8 ?_; refine ztn (h := ?_); try simp only [zX,zY]
         refine zte ?_
         refine zdn ?_
         have HP1 := hidP (HP.out.below (via0 HG1.out (Below.drew (Below.refl _ _))) q1)
         have HR1 := hidP (HR.out.below (via0 HG1.out (Below.drew (Below.refl _ _))) q2)
         go_wp2
         exact ⟨⟨n + 1, by go_num, by omega, hal1, HP1, HR1, via0 HG1.out B.drew⟩, by simp [intOf]; omega⟩
     . have hG : Hid (x.gs.all (grpF (nr : Int)) = true) := by
        have h := hal.out
        rw [List.take_of_length_le (by have := hg2.out; omega)] at h
        exact h
       clear hal
       go_wp2
       clear u0 u1 u2 u3 v0 v1 v2 v3 v4 v5 q1 q2
       go_loopw [7] (fun i w' => ∃ (n : Nat), i = .int .i64 (n : Int) /\ n <= 4 /\ Hid (Qbt x.ds n = true) /\ Hid ((x.ls.take n).all ansF = true) /\ Hid (Blk w' (w.heap.size + 1) 33 #[.slice x.rA x.rs.length x.rc, .slice x.mA x.ms.length x.mc, .slice x.gA x.gs.length x.gc, .int .i64 x.time, .slice x.dA x.ds.length x.dc, .slice x.lA x.ls.length x.lc]) /\ Below w.heap.size w w') (fun i _ => 4 - (intOf i).toNat)
       case atStart => exact ⟨0, rfl, by omega, rfl, rfl, HR, B⟩
       case round =>
        obtain ⟨n, rfl, hn, hnu, hal, HR, B⟩ := hrel
        obtain ⟨v0, v1, v2, v3, v4, v5⟩ := HR.out.row6
        have q2 := HR.out.lt
        by_cases hlt' : n < 4
        . have hlt : n < x.ds.length := by have := hd4.out; omega
          have hltl : n < x.ls.length := by have := hl4.out; omega
          have hi0 : (0 : Int) <= (n : Int) := by omega
          have hi1 : (n : Int) < (x.ds.length : Int) := by omega
          have hi2 : (n : Int) < (x.ls.length : Int) := by omega
          obtain ⟨b, o, hbo, hbs, hIn⟩ : ∃ b o, x.dA = some ⟨b, o, none⟩ /\ b < w.heap.size /\ In w b o x.ds := by
           rcases HX.out.da with h | h
           . rw [h] at hlt; simp at hlt
           . exact h
          obtain ⟨b', o', hbo', hbs', hIn'⟩ : ∃ b o, x.lA = some ⟨b, o, none⟩ /\ b < w.heap.size /\ In w b o x.ls := by
           rcases HX.out.la with h | h
           . rw [h] at hltl; simp at hltl
           . exact h
          have d0 := (hIn.below hbs B).getInt n hlt
          obtain ⟨c0, c1, c2, c3⟩ := (hIn'.below hbs' B).getAn n hltl
          rw [hbo] at v4
          rw [hbo'] at v5
          have hri := Ha.out.lr _ (List.getElem_mem hltl)
          have HC : ∀ W : World, Calls Tryz.prog 83 #[.agg #[.int .i64 x.ls[n].code, .int .i64 x.ls[n].n, .string x.ls[n].key, .string x.ls[n].text]] W fun e w' => e = .returned (.bool (ansF x.ls[n])) /\ Below W.heap.size W w' := fun W => Qfs _ _ _ _ hri.2.2.1 hri.2.2.2 W
          have HD : ∀ W : World, Calls Tryz.prog 11 #[.int .i64 x.ds[n], .int .i64 0, .int .i64 100000] W fun e w' => e = .returned (.bool (inB x.ds[n] 0 100000)) /\ w' = W := fun W => in_any _ _ _ W
          have hsu := Qby ansF hltl
          have hno := Qde ansF hltl
          have hsd := Qcv hlt
          have hnd := Qdx hlt
          generalize hb : ansF x.ls[n] = bb at HC hsu hno
          generalize hb' : inB x.ds[n] 0 100000 = cc at HD hsd hnd
          have HC := hidP HC
          have HD := hidP HD
          clear hb hb' hri hbo hbo'
          have qb : b < wr.heap.size := Nat.lt_of_lt_of_le hbs B.size
          have qb' : b' < wr.heap.size := Nat.lt_of_lt_of_le hbs' B.size
          cases cc
          . have hF : Hid (Qbu (nr : Int) wi le ke x = false) := by show _ = _; rw [hFl.out, hnd rfl]; simp
            clear hno hsu hnd hsd
            go_wp2_with fail
            refine (HD.out _).mono ?_
            rintro e w1 ⟨rfl, rfl⟩
            go_wp2
            go_ret
            exact ⟨by rw [hF.out]; rfl, B⟩
          have hnu1 : Hid (Qbt x.ds (n + 1) = true) := by show _ = _; rw [hsd, hnu.out]; rfl
          cases bb
          . have hF : Hid (Qbu (nr : Int) wi le ke x = false) := by show _ = _; rw [hFl.out, hno rfl]; simp
            clear hno hsu hnd hsd
            go_wp2_with fail
            refine (HD.out _).mono ?_
            rintro e w1 ⟨rfl, rfl⟩
            go_wp2_with fail
            refine (HC.out _).mono ?_
            rintro e w2 ⟨rfl, g2⟩
            go_wp2
            go_ret
            exact ⟨by rw [hF.out]; rfl, via0 g2 B⟩
          . have hal1 : Hid ((x.ls.take (n + 1)).all ansF = true) := by show _ = _; rw [hsu, hal.out]; rfl
            clear hno hsu hnd hsd
            go_wp2_with fail
            refine (HD.out _).mono ?_
            rintro e w1 ⟨rfl, rfl⟩
            go_wp2_with fail
            refine (HC.out _).mono ?_
            rintro e w2 ⟨rfl, g2⟩
            have HR1 := hidP (HR.out.below g2 q2)
            go_wp2
            exact ⟨⟨n + 1, by go_num, by omega, hnu1, hal1, HR1, via0 g2 B⟩, by simp [intOf]; omega⟩
        . have hF : Hid (Qbu (nr : Int) wi le ke x = true) := by
           show _ = _
           have h1 := hnu.out
           have h2 := hal.out
           have e1 : n = x.ds.length := by have := hd4.out; omega
           rw [List.take_of_length_le (by have := hl4.out; omega)] at h2
           rw [e1] at h1
           rw [hFl.out, hR.out, hG.out, h1, h2]; rfl
          go_wp2
          go_ret
          exact ⟨by rw [hF.out]; rfl, B⟩
theorem Qdm (ro wi le ke : Int) (x : KC) (ha : KAsk x) (w : World) (hx : KAt w x) :
 Calls Tryz.prog 53 #[.agg #[.int .i64 ro, .int .i64 wi, .int .i64 le, .int .i64 ke], .agg #[.slice x.rA x.rs.length x.rc, .slice x.mA x.ms.length x.mc, .slice x.gA x.gs.length x.gc, .int .i64 x.time, .slice x.dA x.ds.length x.dc, .slice x.lA x.ls.length x.lc]] w fun e w' => e = .returned (.bool (Qbu ro wi le ke x)) /\ Below w.heap.size w w' := by
 obtain ⟨b1, h1⟩ : ∃ b, setB ro wi le ke = b := ⟨_, rfl⟩
 obtain ⟨b2, h2⟩ : ∃ b, decide ((x.rs.length : Int) = ro) = b := ⟨_, rfl⟩
 obtain ⟨b3, h3⟩ : ∃ b, x.rs.all rowF = b := ⟨_, rfl⟩
 obtain ⟨b4, h4⟩ : ∃ b, Qbv x.ms x.ms.length = b := ⟨_, rfl⟩
 obtain ⟨b5, h5⟩ : ∃ b, x.ms.all (makF ro wi) = b := ⟨_, rfl⟩
 obtain ⟨b6, h6⟩ : ∃ b, decide ((x.gs.length : Int) = 2) = b := ⟨_, rfl⟩
 obtain ⟨b7, h7⟩ : ∃ b, x.gs.all (grpF ro) = b := ⟨_, rfl⟩
 obtain ⟨b8, h8⟩ : ∃ b, inB x.time 0 100000 = b := ⟨_, rfl⟩
 obtain ⟨b9, h9⟩ : ∃ b, decide ((x.ds.length : Int) = 4) = b := ⟨_, rfl⟩
 obtain ⟨b10, h10⟩ : ∃ b, Qbt x.ds x.ds.length = b := ⟨_, rfl⟩
 obtain ⟨b11, h11⟩ : ∃ b, decide ((x.ls.length : Int) = 4) = b := ⟨_, rfl⟩
 obtain ⟨b12, h12⟩ : ∃ b, x.ls.all ansF = b := ⟨_, rfl⟩
 have hF : Hid (Qbu ro wi le ke x = (b1 && b2 && b3 && b4 && b5 && b6 && b7 && b8 && b9 && b10 && b11 && b12)) := by
  show _ = _
  rw [Qbu, h1, h2, h3, h4, h5, h6, h7, h8, h9, h10, h11, h12]
 have q2 : ((x.rs.length : Int) == ro) = b2 := h2
 have q6 : ((x.gs.length : Int) == 2) = b6 := h6
 have q9 : ((x.ds.length : Int) == 4) = b9 := h9
 have q11 : ((x.ls.length : Int) == 4) = b11 := h11
 have f := ha.fit
 have E1 : Hid (∀ W : World, Calls Tryz.prog 99 #[.agg #[.int .i64 ro, .int .i64 wi, .int .i64 le, .int .i64 ke]] W fun e w' => e = .returned (.bool b1) /\ Below W.heap.size W w') := fun W => h1 ▸ Qbw ro wi le ke W
 have E3 : Hid (∀ W : World, Below w.heap.size w W -> Calls Tryz.prog 100 #[.slice x.rA x.rs.length x.rc, .func (.func 101) #[] #[]] W fun e w' => e = .returned (.bool b3) /\ Below W.heap.size W w') := fun W g => h3 ▸ Qkv _ _ x.rs f.rl f.ri ha.rr W (hx.below g).ra (hx.below g).re
 have E4 : Hid (∀ W : World, Below w.heap.size w W -> Calls Tryz.prog 102 #[.slice x.mA x.ms.length x.mc] W fun e w' => e = .returned (.bool b4) /\ Below W.heap.size W w') := fun W g => h4 ▸ Qi2 _ _ x.ms f.ml W (hx.below g).ma
 have E5 : Hid (∀ W : World, Below w.heap.size w W -> Blk W w.heap.size 45 #[.int .i64 ro, .int .i64 wi, .int .i64 le, .int .i64 ke] -> Calls Tryz.prog 103 #[.slice x.mA x.ms.length x.mc, .func (.func 104) #[] #[.pointer (some ⟨w.heap.size, 0, none⟩)]] W fun e w' => e = .returned (.bool b5) /\ Below W.heap.size W w') := fun W g hs => h5 ▸ Qhi ro wi le ke _ _ _ x.ms f.ml f.mi W hs (hx.below g).ma (hx.below g).me
 have E7 : Hid (∀ W : World, Below w.heap.size w W -> Blk W w.heap.size 45 #[.int .i64 ro, .int .i64 wi, .int .i64 le, .int .i64 ke] -> Calls Tryz.prog 106 #[.slice x.gA x.gs.length x.gc, .func (.func 107) #[] #[.pointer (some ⟨w.heap.size, 0, none⟩)]] W fun e w' => e = .returned (.bool b7) /\ Below W.heap.size W w') := fun W g hs => h7 ▸ Qhj ro wi le ke _ _ _ x.gs f.gl f.gi W hs (hx.below g).ga (hx.below g).ge
 have E8 : Hid (∀ W : World, Calls Tryz.prog 44 #[.int .i64 x.time, .int .i64 0, .int .i64 100000] W fun e w' => e = .returned (.bool b8) /\ w' = W) := fun W => h8 ▸ within_any _ _ _ W
 have E10 : Hid (∀ W : World, Below w.heap.size w W -> Calls Tryz.prog 109 #[.slice x.dA x.ds.length x.dc] W fun e w' => e = .returned (.bool b10) /\ w' = W) := fun W g => h10 ▸ Qec _ _ x.ds f.dl W (hx.below g).da
 have E12 : Hid (∀ W : World, Below w.heap.size w W -> Calls Tryz.prog 110 #[.slice x.lA x.ls.length x.lc, .func (.func 111) #[] #[]] W fun e w' => e = .returned (.bool b12) /\ Below W.heap.size W w') := fun W g => h12 ▸ Qgg _ _ x.ls f.ll ha.lr W (hx.below g).la
 clear h1 h2 h3 h4 h5 h6 h7 h8 h9 h10 h11 h12 f hx ha
 go_enter Tryz.func53, Tryz.ntmps53
 have B : Below w.heap.size w ((w.alloc (.cells #[.int .i64 ro, .int .i64 wi, .int .i64 le, .int .i64 ke] 45)).alloc (.cells #[.slice x.rA x.rs.length x.rc, .slice x.mA x.ms.length x.mc, .slice x.gA x.gs.length x.gc, .int .i64 x.time, .slice x.dA x.ds.length x.dc, .slice x.lA x.ls.length x.lc] 33)) := Qaa (Qaa (Below.refl _ _) _) _
 have P : Blk ((w.alloc (.cells #[.int .i64 ro, .int .i64 wi, .int .i64 le, .int .i64 ke] 45)).alloc (.cells #[.slice x.rA x.rs.length x.rc, .slice x.mA x.ms.length x.mc, .slice x.gA x.gs.length x.gc, .int .i64 x.time, .slice x.dA x.ds.length x.dc, .slice x.lA x.ls.length x.lc] 33)) w.heap.size 45 #[.int .i64 ro, .int .i64 wi, .int .i64 le, .int .i64 ke] := (Blk.new w _ _).alloc _
 have R : Blk ((w.alloc (.cells #[.int .i64 ro, .int .i64 wi, .int .i64 le, .int .i64 ke] 45)).alloc (.cells #[.slice x.rA x.rs.length x.rc, .slice x.mA x.ms.length x.mc, .slice x.gA x.gs.length x.gc, .int .i64 x.time, .slice x.dA x.ds.length x.dc, .slice x.lA x.ls.length x.lc] 33)) (w.heap.size + 1) 33 #[.slice x.rA x.rs.length x.rc, .slice x.mA x.ms.length x.mc, .slice x.gA x.gs.length x.gc, .int .i64 x.time, .slice x.dA x.ds.length x.dc, .slice x.lA x.ls.length x.lc] := by have := Blk.new (w.alloc (.cells #[.int .i64 ro, .int .i64 wi, .int .i64 le, .int .i64 ke] 45)) 33 #[.slice x.rA x.rs.length x.rc, .slice x.mA x.ms.length x.mc, .slice x.gA x.gs.length x.gc, .int .i64 x.time, .slice x.dA x.ds.length x.dc, .slice x.lA x.ls.length x.lc]; rwa [World.size_alloc] at this
 go_wp2_with fail
 refine (E1.out _).mono ?_
 rintro e w1 ⟨rfl, g⟩
 replace B := via0 g B
 replace P := P.below g P.lt
 replace R := R.below g R.lt
 clear g
 obtain ⟨u0, u1, u2, u3⟩ := P.row4
 obtain ⟨v0, v1, v2, v3, v4, v5⟩ := R.row6
 have q1 := P.lt
 have q2' := R.lt
 cases b1
 . go_wp2
   go_ret
   exact ⟨by rw [hF.out]; rfl, B⟩
 cases b2
 . go_wp2
   go_ret
   exact ⟨by rw [hF.out]; rfl, B⟩
 go_wp2_with fail
 refine (E3.out _ B).mono ?_
 rintro e w3 ⟨rfl, g⟩
 replace B := via0 g B
 replace P := P.below g P.lt
 replace R := R.below g R.lt
 clear g u0 u1 u2 u3 v0 v1 v2 v3 v4 v5 q1 q2'
 obtain ⟨u0, u1, u2, u3⟩ := P.row4
 obtain ⟨v0, v1, v2, v3, v4, v5⟩ := R.row6
 have q1 := P.lt
 have q2' := R.lt
 cases b3
 . go_wp2
   go_ret
   exact ⟨by rw [hF.out]; rfl, B⟩
 go_wp2_with fail
 refine (E4.out _ B).mono ?_
 rintro e w4 ⟨rfl, g⟩
 replace B := via0 g B
 replace P := P.below g P.lt
 replace R := R.below g R.lt
 clear g u0 u1 u2 u3 v0 v1 v2 v3 v4 v5 q1 q2'
 obtain ⟨u0, u1, u2, u3⟩ := P.row4
 obtain ⟨v0, v1, v2, v3, v4, v5⟩ := R.row6
 have q1 := P.lt
 have q2' := R.lt
 cases b4
 . go_wp2
   go_ret
   exact ⟨by rw [hF.out]; rfl, B⟩
 go_wp2_with fail
 refine (E5.out _ B P).mono ?_
 rintro e w5 ⟨rfl, g⟩
 replace B := via0 g B
 replace P := P.below g P.lt
 replace R := R.below g R.lt
 clear g u0 u1 u2 u3 v0 v1 v2 v3 v4 v5 q1 q2'
 obtain ⟨u0, u1, u2, u3⟩ := P.row4
 obtain ⟨v0, v1, v2, v3, v4, v5⟩ := R.row6
 have q1 := P.lt
 have q2' := R.lt
 cases b5
 . go_wp2
   go_ret
   exact ⟨by rw [hF.out]; rfl, B⟩
 cases b6
 . go_wp2
   go_ret
   exact ⟨by rw [hF.out]; rfl, B⟩
 go_wp2_with fail
 refine (E7.out _ B P).mono ?_
 rintro e w7 ⟨rfl, g⟩
 replace B := via0 g B
 replace P := P.below g P.lt
 replace R := R.below g R.lt
 clear g u0 u1 u2 u3 v0 v1 v2 v3 v4 v5 q1 q2'
 obtain ⟨u0, u1, u2, u3⟩ := P.row4
 obtain ⟨v0, v1, v2, v3, v4, v5⟩ := R.row6
 have q1 := P.lt
 have q2' := R.lt
 cases b7
 . go_wp2
   go_ret
   exact ⟨by rw [hF.out]; rfl, B⟩
 go_wp2_with fail
 refine (E8.out _).mono ?_
 rintro e w8 ⟨rfl, rfl⟩
 cases b8
 . go_wp2
   go_ret
   exact ⟨by rw [hF.out]; rfl, B⟩
 cases b9
 . go_wp2
   go_ret
   exact ⟨by rw [hF.out]; rfl, B⟩
 go_wp2_with fail
 refine (E10.out _ B).mono ?_
 rintro e w10 ⟨rfl, rfl⟩
 cases b10
 . go_wp2
   go_ret
   exact ⟨by rw [hF.out]; rfl, B⟩
 cases b11
 . go_wp2
   go_ret
   exact ⟨by rw [hF.out]; rfl, B⟩
 go_wp2_with fail
 refine (E12.out _ B).mono ?_
 rintro e w12 ⟨rfl, g⟩
 replace B := via0 g B
 replace P := P.below g P.lt
 replace R := R.below g R.lt
 clear g u0 u1 u2 u3 v0 v1 v2 v3 v4 v5 q1 q2'
 obtain ⟨u0, u1, u2, u3⟩ := P.row4
 obtain ⟨v0, v1, v2, v3, v4, v5⟩ := R.row6
 have q1 := P.lt
 have q2' := R.lt
 cases b12
 . go_wp2
   go_ret
   exact ⟨by rw [hF.out]; rfl, B⟩
 go_wp2
 go_ret
 exact ⟨by rw [hF.out]; rfl, B⟩
theorem told_node (ro wi le ke id te vo base bt role com su size : Int) (A vA nA pA dA hA0 : Option Addr) (cap vn vc nn nc pn pc dc hc : Nat) (l : List En) (db : List UInt8) (hs : List RpC) (x y : KC) (w : World) :
 Calls Tryz.prog 19 #[.agg #[.int .i64 te, .int .i64 vo, .int .i64 base, .int .i64 bt, .slice A l.length cap, .slice x.rA x.rs.length x.rc, .slice x.mA x.ms.length x.mc, .slice x.gA x.gs.length x.gc, .int .i64 x.time, .slice x.dA x.ds.length x.dc, .slice x.lA x.ls.length x.lc, .int .i64 ro, .int .i64 wi, .int .i64 le, .int .i64 ke, .int .i64 size, .int .i64 id, .int .i64 role, .slice vA vn vc, .slice nA nn nc, .slice pA pn pc, .int .i64 com, .slice y.rA y.rs.length y.rc, .slice y.mA y.ms.length y.mc, .slice y.gA y.gs.length y.gc, .int .i64 y.time, .slice y.dA y.ds.length y.dc, .slice y.lA y.ls.length y.lc, .slice dA db.length dc, .int .i64 su, .slice hA0 hs.length hc]] w fun e w' => e = .returned (.agg #[.int .i64 id, .int .i64 te, .int .i64 vo, .int .i64 base, .int .i64 bt, .slice A l.length cap, .slice x.rA x.rs.length x.rc, .slice x.mA x.ms.length x.mc, .slice x.gA x.gs.length x.gc, .int .i64 x.time, .slice x.dA x.ds.length x.dc, .slice x.lA x.ls.length x.lc, .int .i64 role, .slice vA vn vc, .slice nA nn nc, .slice pA pn pc, .int .i64 com, .slice y.rA y.rs.length y.rc, .slice y.mA y.ms.length y.mc, .slice y.gA y.gs.length y.gc, .int .i64 y.time, .slice y.dA y.ds.length y.dc, .slice y.lA y.ls.length y.lc, .slice dA db.length dc, .int .i64 su, .slice hA0 hs.length hc]) /\ Below w.heap.size w w' := by
 have P3 : Blk ((w.alloc (.cells #[.int .i64 te, .int .i64 vo, .int .i64 base, .int .i64 bt, .slice A l.length cap, .slice x.rA x.rs.length x.rc, .slice x.mA x.ms.length x.mc, .slice x.gA x.gs.length x.gc, .int .i64 x.time, .slice x.dA x.ds.length x.dc, .slice x.lA x.ls.length x.lc, .int .i64 ro, .int .i64 wi, .int .i64 le, .int .i64 ke, .int .i64 size, .int .i64 id, .int .i64 role, .slice vA vn vc, .slice nA nn nc, .slice pA pn pc, .int .i64 com, .slice y.rA y.rs.length y.rc, .slice y.mA y.ms.length y.mc, .slice y.gA y.gs.length y.gc, .int .i64 y.time, .slice y.dA y.ds.length y.dc, .slice y.lA y.ls.length y.lc, .slice dA db.length dc, .int .i64 su, .slice hA0 hs.length hc] 58)).alloc (.cells #[.int .i64 0, .int .i64 0, .int .i64 0, .int .i64 0, .int .i64 0, .slice none 0 0, .slice none 0 0, .slice none 0 0, .slice none 0 0, .int .i64 0, .slice none 0 0, .slice none 0 0, .int .i64 0, .slice none 0 0, .slice none 0 0, .slice none 0 0, .int .i64 0, .slice none 0 0, .slice none 0 0, .slice none 0 0, .int .i64 0, .slice none 0 0, .slice none 0 0, .slice none 0 0, .int .i64 0, .slice none 0 0] 42)) (w.heap.size + 1) 42 #[.int .i64 0, .int .i64 0, .int .i64 0, .int .i64 0, .int .i64 0, .slice none 0 0, .slice none 0 0, .slice none 0 0, .slice none 0 0, .int .i64 0, .slice none 0 0, .slice none 0 0, .int .i64 0, .slice none 0 0, .slice none 0 0, .slice none 0 0, .int .i64 0, .slice none 0 0, .slice none 0 0, .slice none 0 0, .int .i64 0, .slice none 0 0, .slice none 0 0, .slice none 0 0, .int .i64 0, .slice none 0 0] := by have := Blk.new (w.alloc (.cells #[.int .i64 te, .int .i64 vo, .int .i64 base, .int .i64 bt, .slice A l.length cap, .slice x.rA x.rs.length x.rc, .slice x.mA x.ms.length x.mc, .slice x.gA x.gs.length x.gc, .int .i64 x.time, .slice x.dA x.ds.length x.dc, .slice x.lA x.ls.length x.lc, .int .i64 ro, .int .i64 wi, .int .i64 le, .int .i64 ke, .int .i64 size, .int .i64 id, .int .i64 role, .slice vA vn vc, .slice nA nn nc, .slice pA pn pc, .int .i64 com, .slice y.rA y.rs.length y.rc, .slice y.mA y.ms.length y.mc, .slice y.gA y.gs.length y.gc, .int .i64 y.time, .slice y.dA y.ds.length y.dc, .slice y.lA y.ls.length y.lc, .slice dA db.length dc, .int .i64 su, .slice hA0 hs.length hc] 58)) 42 #[.int .i64 0, .int .i64 0, .int .i64 0, .int .i64 0, .int .i64 0, .slice none 0 0, .slice none 0 0, .slice none 0 0, .slice none 0 0, .int .i64 0, .slice none 0 0, .slice none 0 0, .int .i64 0, .slice none 0 0, .slice none 0 0, .slice none 0 0, .int .i64 0, .slice none 0 0, .slice none 0 0, .slice none 0 0, .int .i64 0, .slice none 0 0, .slice none 0 0, .slice none 0 0, .int .i64 0, .slice none 0 0]; rwa [World.size_alloc] at this
 go_enter Tryz.func19, Tryz.ntmps19
 go_upto_region 1 with fail
 refine wp_region_lit ?_
 iterate 63 go_step
 refine Qag rfl 42 _ _ rfl (g := w.heap.size + 1) (cells := #[.int .i64 id, .int .i64 te, .int .i64 vo, .int .i64 base, .int .i64 bt, .slice A l.length cap, .slice x.rA x.rs.length x.rc, .slice x.mA x.ms.length x.mc, .slice x.gA x.gs.length x.gc, .int .i64 x.time, .slice x.dA x.ds.length x.dc, .slice x.lA x.ls.length x.lc, .int .i64 role, .slice vA vn vc, .slice nA nn nc, .slice pA pn pc, .int .i64 com, .slice y.rA y.rs.length y.rc, .slice y.mA y.ms.length y.mc, .slice y.gA y.gs.length y.gc, .int .i64 y.time, .slice y.dA y.ds.length y.dc, .slice y.lA y.ls.length y.lc, .slice dA db.length dc, .int .i64 su, .slice hA0 hs.length hc]) rfl rfl P3 (by kernel_rfl) rfl (by simp [Value.oneCell']) ?_
 refine wpList_nil ?_
 have HB := hidP (P3.row #[.int .i64 id, .int .i64 te, .int .i64 vo, .int .i64 base, .int .i64 bt, .slice A l.length cap, .slice x.rA x.rs.length x.rc, .slice x.mA x.ms.length x.mc, .slice x.gA x.gs.length x.gc, .int .i64 x.time, .slice x.dA x.ds.length x.dc, .slice x.lA x.ls.length x.lc, .int .i64 role, .slice vA vn vc, .slice nA nn nc, .slice pA pn pc, .int .i64 com, .slice y.rA y.rs.length y.rc, .slice y.mA y.ms.length y.mc, .slice y.gA y.gs.length y.gc, .int .i64 y.time, .slice y.dA y.ds.length y.dc, .slice y.lA y.ls.length y.lc, .slice dA db.length dc, .int .i64 su, .slice hA0 hs.length hc])
 have B0 := hidP (show Below w.heap.size w ((w.alloc (.cells #[.int .i64 te, .int .i64 vo, .int .i64 base, .int .i64 bt, .slice A l.length cap, .slice x.rA x.rs.length x.rc, .slice x.mA x.ms.length x.mc, .slice x.gA x.gs.length x.gc, .int .i64 x.time, .slice x.dA x.ds.length x.dc, .slice x.lA x.ls.length x.lc, .int .i64 ro, .int .i64 wi, .int .i64 le, .int .i64 ke, .int .i64 size, .int .i64 id, .int .i64 role, .slice vA vn vc, .slice nA nn nc, .slice pA pn pc, .int .i64 com, .slice y.rA y.rs.length y.rc, .slice y.mA y.ms.length y.mc, .slice y.gA y.gs.length y.gc, .int .i64 y.time, .slice y.dA y.ds.length y.dc, .slice y.lA y.ls.length y.lc, .slice dA db.length dc, .int .i64 su, .slice hA0 hs.length hc] 58)).alloc (.cells #[.int .i64 0, .int .i64 0, .int .i64 0, .int .i64 0, .int .i64 0, .slice none 0 0, .slice none 0 0, .slice none 0 0, .slice none 0 0, .int .i64 0, .slice none 0 0, .slice none 0 0, .int .i64 0, .slice none 0 0, .slice none 0 0, .slice none 0 0, .int .i64 0, .slice none 0 0, .slice none 0 0, .slice none 0 0, .int .i64 0, .slice none 0 0, .slice none 0 0, .slice none 0 0, .int .i64 0, .slice none 0 0] 42)) from Qaa (Qaa (Below.refl _ _) _) _)
 clear P3
 go_wp2
 exact bodyPost_ret (v := .agg #[.int .i64 id, .int .i64 te, .int .i64 vo, .int .i64 base, .int .i64 bt, .slice A l.length cap, .slice x.rA x.rs.length x.rc, .slice x.mA x.ms.length x.mc, .slice x.gA x.gs.length x.gc, .int .i64 x.time, .slice x.dA x.ds.length x.dc, .slice x.lA x.ls.length x.lc, .int .i64 role, .slice vA vn vc, .slice nA nn nc, .slice pA pn pc, .int .i64 com, .slice y.rA y.rs.length y.rc, .slice y.mA y.ms.length y.mc, .slice y.gA y.gs.length y.gc, .int .i64 y.time, .slice y.dA y.ds.length y.dc, .slice y.lA y.ls.length y.lc, .slice dA db.length dc, .int .i64 su, .slice hA0 hs.length hc]) (Qe4 (by rfl) rfl HB.out Tryz.underlying42 (by kernel_rfl)) rfl ⟨rfl, Qcm B0.out (by omega) _⟩
end Go.Proofs.YtglegpkcikacoaaGreatDoor.Gen
