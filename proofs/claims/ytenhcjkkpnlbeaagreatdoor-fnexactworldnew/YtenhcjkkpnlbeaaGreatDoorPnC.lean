/-
  The node that comes up from no bytes, as the program makes it. Condition: 1 to 5 nodes.
-/
import Derived.Test.YtenhcjkkpnlbeaaGreatDoorPeI5
import Derived.Test.YtenhcjkkpnlbeaaGreatDoorPnN
import Derived.Test.YtenhcjkkpnlbeaaGreatDoorKCi
set_option linter.unusedVariables false
set_option linter.unusedSimpArgs false
set_option maxRecDepth 100000
set_option maxHeartbeats 8000000
namespace Go.Proofs.YtenhcjkkpnlbeaaGreatDoor.Gen
open ChangeShapes WideShapes ChangeAt RowKit Joins Deep Base
def Qbr (ro wi le ke size id vo : Int) (x y : KC) (v n q d : Value) : Array Value := #[.int .i64 0, .int .i64 vo, .int .i64 0, .int .i64 0, .slice none 0 0, .slice x.rA x.rs.length x.rc, .slice x.mA x.ms.length x.mc, .slice x.gA x.gs.length x.gc, .int .i64 x.time, .slice x.dA x.ds.length x.dc, .slice x.lA x.ls.length x.lc, .int .i64 ro, .int .i64 wi, .int .i64 le, .int .i64 ke, .int .i64 size, .int .i64 id, .int .i64 0, v, n, q, .int .i64 0, .slice y.rA y.rs.length y.rc, .slice y.mA y.ms.length y.mc, .slice y.gA y.gs.length y.gc, .int .i64 y.time, .slice y.dA y.ds.length y.dc, .slice y.lA y.ls.length y.lc, d, .int .i64 0, .slice none 0 0]
def zKC : KC := ⟨none, 0, [], none, 0, [], none, 0, [], 0, none, 0, [], none, 0, []⟩
theorem Qfi (ro wi le ke size id vo : Int) (x y : KC) {v n q d : Value} (h1 : v.oneCell' = true) (h2 : n.oneCell' = true) (h3 : q.oneCell' = true) (h4 : d.oneCell' = true) : (Qbr ro wi le ke size id vo x y v n q d).all (·.oneCell') = true := by
 simp [Qbr, Value.oneCell'] at h1 h2 h3 h4 ⊢
 exact ⟨h1, h2, h3, h4⟩
theorem Qfc {α : Type} (c : α -> Nat) (B : Nat) : ∀ (l : List α), (∀ y ∈ l, c y <= B) -> Qak c l <= l.length * B
 | [], _ => by simp [Qak]
 | a :: l, h => by
  have h1 := Qfc c B l (fun y hy => h y (by simp [hy]))
  have h2 := h a (by simp)
  simp only [Qak, List.map_cons, List.sum_cons, List.length_cons, Nat.add_mul] at h1 ⊢
  omega
theorem Qeu {x : KC} {b : Bool} {ro : Int} (hr : b = true -> ro <= 4) (h : x.p = newK b ro) : KFit x /\ kct x <= 100 := by
 have hO := newO_le ro
 cases b
 . simp only [KC.p, newK, PK.mk.injEq, Bool.false_eq_true, if_false, List.map_eq_nil_iff] at h
   obtain ⟨h1, h2, h3, h4, h5, h6⟩ := h
   exact ⟨⟨by simp [h1], by simp [h2], by simp [h3], by simp [h5], by simp [h6], by simp [h1], by simp [h2], by simp [h3], by simp [h1, Qak], by simp [h2, Qak], by simp [h3, Qak]⟩, by simp [kct, h1, h2, h3, h5, h6, Qak]⟩
 . simp only [KC.p, newK, PK.mk.injEq, if_true, List.map_eq_nil_iff] at h
   obtain ⟨h1, h2, h3, h4, h5, h6⟩ := h
   have hr4 := hr rfl
   have l1 : x.rs.length <= 4 := by have := congrArg List.length h1; simp at this; omega
   have l3 : x.gs.length = 2 := by have := congrArg List.length h3; simpa using this
   have i1 : ∀ y ∈ x.rs, y.its = [] := fun y hy => by
    have : y.p ∈ List.replicate ro.toNat (⟨0, 0, []⟩ : PR) := h1 ▸ List.mem_map_of_mem hy
    have := (List.mem_replicate.1 this).2
    simpa [RC.p] using congrArg PR.its this
   have i3 : ∀ y ∈ x.gs, y.m = [] /\ y.b = [] /\ y.o = newO ro := fun y hy => by
    have : y.p ∈ List.replicate 2 (⟨0, [], [], newO ro⟩ : PG) := h3 ▸ List.mem_map_of_mem hy
    have := (List.mem_replicate.1 this).2
    exact ⟨by simpa [GC.p] using congrArg PG.m this, by simpa [GC.p] using congrArg PG.b this, by simpa [GC.p] using congrArg PG.o this⟩
   have c1 := Qfc cR 2 x.rs (fun y hy => by simp [cR, i1 y hy])
   have c3 := Qfc cG 5 x.gs (fun y hy => by obtain ⟨e1, e2, e3⟩ := i3 y hy; simp only [cG, e1, e2, e3, List.length_nil]; omega)
   have c2 : Qak cM x.ms = 0 := by simp [h2, Qak]
   have c5 : x.ds.length = 4 := by simp [h5]
   have c6 : x.ls.length = 4 := by simp [h6]
   refine ⟨⟨by omega, by simp [h2], by omega, by simp [h5], by simp [h6], fun y hy => by simp [i1 y hy], by simp [h2], fun y hy => ?_, by omega, by simp [h2, Qak], by omega⟩, by unfold kct; rw [c2]; omega⟩
   obtain ⟨e1, e2, e3⟩ := i3 y hy
   rw [e1, e2, e3]
   simp only [List.length_nil]
   omega
section
variable (ro wi le ke size id vo : Int) (x y : KC) (v n q d v' : Value)
theorem nodeU_v : (Qbr ro wi le ke size id vo x y v n q d).setIfInBounds 18 v' = Qbr ro wi le ke size id vo x y v' n q d := by simp [Qbr]
theorem nodeU_n : (Qbr ro wi le ke size id vo x y v n q d).setIfInBounds 19 v' = Qbr ro wi le ke size id vo x y v v' q d := by simp [Qbr]
theorem nodeU_q : (Qbr ro wi le ke size id vo x y v n q d).setIfInBounds 20 v' = Qbr ro wi le ke size id vo x y v n v' d := by simp [Qbr]
theorem nodeU_c : (Qbr ro wi le ke size id vo x y v n q d).setIfInBounds 21 (.int .i64 0) = Qbr ro wi le ke size id vo x y v n q d := by simp [Qbr]
theorem nodeU_d : ((Qbr ro wi le ke size id vo x y v n q d).setIfInBounds 28 v').setIfInBounds 29 (.int .i64 0) = Qbr ro wi le ke size id vo x y v n q v' := by simp [Qbr]
theorem nodeU_y (z : KC) : ((((((Qbr ro wi le ke size id vo x y v n q d).setIfInBounds 22 (.slice z.rA z.rs.length z.rc)).setIfInBounds 23 (.slice z.mA z.ms.length z.mc)).setIfInBounds 24 (.slice z.gA z.gs.length z.gc)).setIfInBounds 25 (.int .i64 z.time)).setIfInBounds 26 (.slice z.dA z.ds.length z.dc)).setIfInBounds 27 (.slice z.lA z.ls.length z.lc) = Qbr ro wi le ke size id vo x z v n q d := by simp [Qbr]
end
def Bo (b : Nat) (t : TypeId) (cs : Array Value) (W : World) (S : Nat -> Prop) : Prop := Blk W b t cs /\ S b
theorem fmB (b : Nat) (t : TypeId) (cs : Array Value) : Fm (Bo b t cs) := ⟨fun _ _ _ _ h k d => ⟨h.1.offp k (d _ h.2), h.2⟩, fun _ _ _ h s => ⟨h.1, s _ h.2⟩⟩
theorem Cx.box {w W : World} {P : Nat -> World -> (Nat -> Prop) -> Prop} (C : Cx w W P) (k : Nat) {b : Nat} {t : TypeId} {cs : Array Value} (hP : P k = Bo b t cs) : Blk W b t cs /\ w.heap.size + 2 <= b := by
 obtain ⟨fm, hw, col, co⟩ := C
 have hk := co k
 rw [hP] at hk
 exact ⟨hk.1, hk.2.1.1⟩
theorem Cx.put {w W W' : World} {P : Nat -> World -> (Nat -> Prop) -> Prop} (C : Cx w W P) (k b : Nat) {t : TypeId} {cs : Array Value} (hP : P k = Bo b t cs) (cs' : Array Value) (o : Offp (fun z => z = b) W W') (hb : Blk W' b t cs') : Cx w W' (updP P k (Bo b t cs')) := by
 obtain ⟨fm, hw, col, co⟩ := C
 have hs := o.size
 have hk := co k
 rw [hP] at hk
 refine ⟨fun j => ?_, by omega, col, fun j => ?_⟩
 . unfold updP; split<;>first | exact fmB _ _ _ | exact fm _
 . unfold updP
   split
   . rename_i e; subst e
     exact ⟨hb, ⟨⟨hk.2.1.1, by have := hk.2.1.2; omega⟩, hk.2.2⟩⟩
   . rename_i e
     exact (fm j).mono _ _ _ ((fm j).off _ _ _ _ (co j) o (fun z hz ez => e (by subst ez; rw [← hz.2, hk.2.2]))) (fun z hz => ⟨⟨hz.1.1, by have := hz.1.2; omega⟩, hz.2⟩)
theorem updP_same {P : Nat -> World -> (Nat -> Prop) -> Prop} {k : Nat} {Q Q' : World -> (Nat -> Prop) -> Prop} : updP (updP P k Q) k Q' = updP P k Q' := by
 funext j; unfold updP; split<;>rfl
theorem updP_last {P : Nat -> World -> (Nat -> Prop) -> Prop} {k j : Nat} {Q Q' K : World -> (Nat -> Prop) -> Prop} : updP (updP (updP P k Q) j K) k Q' = updP (updP P j K) k Q' := by
 funext i; unfold updP; by_cases h : i = k<;>simp [h]
structure Cup (w W : World) (sc zn : Array Value) : Prop where
  b : Blk W w.heap.size 24 sc
  r : Blk W (w.heap.size + 1) 77 zn
  bl : Below w.heap.size w W
theorem Cup.below {w W W' : World} {sc zn : Array Value} (h : Cup w W sc zn) (g : Below W.heap.size W W') : Cup w W' sc zn := ⟨h.b.below g h.b.lt, h.r.below g h.r.lt, via0 g h.bl⟩
theorem Cup.offp {w W W' : World} {sc zn : Array Value} (h : Cup w W sc zn) {b : Nat} (hb : w.heap.size + 1 < b) (o : Offp (fun z => z = b) W W') : Cup w W' sc zn := ⟨h.b.offp o (by omega), h.r.offp o (by omega), h.bl.trans (o.toBelow (fun z e => by omega) h.bl.size)⟩
theorem Qd3 {α : Type} [Cel α] {W : World} {b : Nat} {t : TypeId} {cur : Array Value} {l : List α} {S : Nat -> Prop} (p : Blk W b t cur) (h : cur.toList = flat l) (hS : S b) : Sub W (some ⟨b, 0, none⟩) l S :=
 .inr ⟨b, 0, rfl, hS, p.lt, fun j v hv => by rw [Nat.zero_add]; exact p.cell (by rw [← Array.getElem?_toList, h]; exact hv), fun j hj => by
  rw [Nat.zero_add]
  have hj' : j < (flat l).length := by rw [Qa6]; exact hj
  have hv := List.getElem?_eq_getElem hj'
  exact ⟨by rw [p.cell (i := j) (by rw [← Array.getElem?_toList, h]; exact hv)]; rfl, p.thaw j⟩⟩
theorem Qea {α : Type} [Cel α] {z : α} {v : Value} (h : Cel.cs z = [v]) : ∀ n, flat (List.replicate n z) = List.replicate n v
 | 0 => by simp [flat]
 | n + 1 => by
  have := Qea h n
  simp only [List.replicate_succ, flat, List.flatMap_cons, h] at this ⊢
  rw [this]; rfl
theorem Qfk (v : Value) (n : Nat) : (madeCells #[v] n).toList = List.replicate n v := by
 apply List.ext_getElem
 . simp [madeCells]
 . intro i h1 h2
   simp [madeCells, Nat.mod_one]
theorem Cx.putMade {α : Type} [Cel α] {w W : World} {P : Nat -> World -> (Nat -> Prop) -> Prop} (C : Cx w W P) (b : Nat) {t : TypeId} {cs : Array Value} (hP : P 9 = Bo b t cs) (i n j : Nat) (hj : j ≠ 9) (z : α) (zv : Value) (hz : Cel.cs z = [zv]) (te : TypeId) (cs' : Array Value) (hcs : cs.setIfInBounds i (.slice (some ⟨W.heap.size, 0, none⟩) n n) = cs') :
 Cx w ((W.setCell ⟨b, i, none⟩ (.slice (some ⟨W.heap.size, 0, none⟩) n n)).alloc (.cells (madeCells #[zv] n) te)) (updP (updP P 9 (Bo b t cs')) j (fun V S => Sub V (some ⟨W.heap.size, 0, none⟩) (List.replicate n z) S)) := by
 obtain ⟨O, hb⟩ := C.box 9 hP
 have h1 := C.put 9 b hP cs' ((Offp.refl (fun z => z = b) W).put i (.slice (some ⟨W.heap.size, 0, none⟩) n n)) (by have := O.setAt i (.slice (some ⟨W.heap.size, 0, none⟩) n n); rwa [hcs] at this)
 have e : (W.setCell ⟨b, i, none⟩ (.slice (some ⟨W.heap.size, 0, none⟩) n n)).heap.size = W.heap.size := by simp
 have p := Blk.new (W.setCell ⟨b, i, none⟩ (.slice (some ⟨W.heap.size, 0, none⟩) n n)) te (madeCells #[zv] n)
 rw [e] at p
 exact h1.fresh (Qab (Below.refl _ _) _) j (fmSub _ _) (Qd3 p (by rw [Qfk, Qea hz]) ⟨Nat.le_of_eq e, p.lt⟩)
theorem Cup.putMade {w W : World} {sc zn : Array Value} (h : Cup w W sc zn) {b : Nat} (hb : w.heap.size + 2 <= b) (i : Nat) (v : Value) (ob : Obj) : Cup w ((W.setCell ⟨b, i, none⟩ v).alloc ob) sc zn :=
 (h.offp (by omega) ((Offp.refl (fun z => z = b) W).put i v)).below (Qab (Below.refl _ _) _)
theorem cameUp_any (ro wi le ke id : Int) (n : Nat) (hn : 1 <= n /\ n <= 5) (w : World) (hgl : Glo w) :
 Calls Tryz.prog 36 #[.agg (Qag ro wi le ke), .int .i64 id, .int .i64 (n : Int), .slice none 0 0] w fun e w' => ∃ (x y : KC) (a1 a2 a3 a4 : Option Addr) (c1 c2 c3 c4 : Nat), e = .returned (.agg (Qbr ro wi le ke n id (Qd7 (setB ro wi le ke)) x y (.slice a1 n c1) (.slice a2 n c2) (.slice a3 n c3) (.slice a4 0 c4))) /\ x.p = newK (setB ro wi le ke) ro /\ y.p = newK (setB ro wi le ke) ro /\ Below w.heap.size w w' /\
  ∃ col, KOwn w' x (Tg w w' col 2) /\ Sub w' a1 (List.replicate n false) (Tg w w' col 3) /\ Sub w' a2 (List.replicate n (1 : Int)) (Tg w w' col 4) /\ Sub w' a3 (List.replicate n (0 : Int)) (Tg w w' col 5) /\ KOwn w' y (Tg w w' col 6) := by
 have hr4 : Hid (setB ro wi le ke = true -> ro <= 4) := fun h => (Qdm h).2
 obtain ⟨B, hB⟩ : ∃ B, setB ro wi le ke = B := ⟨_, rfl⟩
 obtain ⟨vo, hvo⟩ : ∃ vo, Qd7 B = vo := ⟨_, rfl⟩
 have HH : Hid (∀ W : World, Glo W -> Calls Tryz.prog 77 #[.agg (Qag ro wi le ke), .slice none 0 0] W fun e w' => ∃ x : KC, e = .returned (.agg (Qaj 0 vo 0 0 none 0 0 x.rA x.rs.length x.rc x.mA x.ms.length x.mc x.gA x.gs.length x.gc x.time x.dA x.ds.length x.dc x.lA x.ls.length x.lc)) /\ x.p = newK B ro /\ KOwn w' x (fun b => W.heap.size <= b /\ b < w'.heap.size) /\ Below W.heap.size W w') := fun W h => by have h := Qjh ro wi le ke W h; rw [hB] at h; simp only [Qnj, hvo] at h; exact h
 have HWN : Hid (∀ W : World, Glo W -> Calls Tryz.prog 80 #[.slice none 0 0] W fun e w' => ∃ (a : Option Addr) (c : Nat), e = .returned (.agg #[.slice a 0 c, .int .i64 0]) /\ Below W.heap.size W w') := fun W h => Qjz W h
 rw [hB] at hr4
 rw [hB, hvo]
 have HG := hidP hgl
 clear hB hvo hgl
 have I : Cup w ((w.alloc (.cells (Qag ro wi le ke) 24)).alloc (.cells Qad 77)) (Qag ro wi le ke) Qad := ⟨(Blk.new w _ _).alloc _, by have := Blk.new (w.alloc (.cells (Qag ro wi le ke) 24)) 77 Qad; rwa [World.size_alloc] at this, Qab (Qab (Below.refl _ w) _) _⟩
 have MkS : Hid (∀ W : World, Blk W w.heap.size 24 (Qag ro wi le ke) -> (fun (W : World) => W.cell? ⟨w.heap.size, 0, none⟩ = some (.int .i64 ro) /\ W.cell? ⟨w.heap.size, 1, none⟩ = some (.int .i64 wi) /\ W.cell? ⟨w.heap.size, 2, none⟩ = some (.int .i64 le) /\ W.cell? ⟨w.heap.size, 3, none⟩ = some (.int .i64 ke)) W) := hidP (fun W h => h.row4)
 go_enter Tryz.func36, Tryz.ntmps36
 go_upto_region 1 with fail
 have ZS : Hid ((Qad : Array Value).size = 31) := hidP rfl
 generalize (w.alloc (.cells (Qag ro wi le ke) 24)).alloc (.cells Qad 77) = v0 at I ⊢
 generalize (Qad : Array Value) = zn at I ZS
 go_cut [9] from 10 to 16 (fun s9 wx => ∃ (x : KC) (b : Nat), s9 = .pointer (some ⟨b, 0, none⟩) /\ x.p = newK B ro /\ Cup w wx (Qag ro wi le ke) zn /\ Cx w wx (updP (updP (fun _ _ _ => True) 2 (fun W S => KOwn W x S)) 9 (Bo b 77 (Qbr ro wi le ke n id vo x zKC (.slice none 0 0) (.slice none 0 0) (.slice none 0 0) (.slice none 0 0)))))
 case first =>
  refine wp_region_noPanic ?_
  refine wp_region_held_drew (S := (fun (W : World) => W.cell? ⟨w.heap.size, 0, none⟩ = some (.int .i64 ro) /\ W.cell? ⟨w.heap.size, 1, none⟩ = some (.int .i64 wi) /\ W.cell? ⟨w.heap.size, 2, none⟩ = some (.int .i64 le) /\ W.cell? ⟨w.heap.size, 3, none⟩ = some (.int .i64 ke))) (by kernel_rfl) ?_ (fun hH => ?_)
  . exact MkS.out _ I.b
  have I := I.below (Below.refl _ _).drew
  generalize v0.drew = u0 at *
  have C := Cx.start (w := w) (W := u0) (by have := I.r.lt; omega)
  refine ztk [0, 1, 3, 4, 5] ?_; repeat (refine ztn (h := ?_); try simp only [zX,zY])
  refine zte ?_
  refine zR2 2 7 (fun K hK => ?_) (fun K hK => ?_)
  . simp only [zG]
    go_simp
    refine (HH.out _ (HG.out.below I.bl)).mono ?_
    rintro e w1 ⟨x, rfl, hpx, hox, g⟩
    have C := C.fresh g 2 (fmK x) hox
    have I := I.below g
    clear g hox
    refine hK.out _ _ (MkS.out _ I.b) fun hH => ?_; clear hK K; try simp only [zX,zY]
    refine zt1 6 ?_; refine ztn (h := ?_); try simp only [zX,zY]
    refine zte ?_
    refine zR1 7 (fun K hK => ?_)
    simp only [zG]
    go_simp
    have O := Blk.new w1 77 Qad
    have C := C.fresh (Qab (Below.refl _ w1) (.cells Qad 77)) 9 (fmB w1.heap.size 77 Qad) ⟨O, Nat.le_refl _, O.lt⟩
    have hb : w.heap.size + 1 < w1.heap.size := I.r.lt
    have I := I.below (Qab (Below.refl _ w1) (.cells Qad 77))
    refine hK.out _ _ (MkS.out _ I.b) fun hH => ?_; clear hK K; try simp only [zX,zY]
    generalize w1.alloc (.cells Qad 77) = W2 at *
    refine zR1 8 (fun K hK => ?_)
    simp only [zG]
    rw [if_pos (by rfl)]
    refine wp_store_row 77 _ _ rfl w1.heap.size (Qbr ro wi le ke n id vo x zKC (.slice none 0 0) (.slice none 0 0) (.slice none 0 0) (.slice none 0 0)) rfl rfl 77 Qad O (by kernel_rfl) rfl (Qfi _ _ _ _ _ _ _ _ _ rfl rfl rfl rfl) ?_
    have C := C.put 9 w1.heap.size rfl (Qbr ro wi le ke n id vo x zKC (.slice none 0 0) (.slice none 0 0) (.slice none 0 0) (.slice none 0 0)) ((Offp.refl (fun z => z = w1.heap.size) W2).row (b := w1.heap.size) rfl _) (O.row _)
    have I := I.offp hb ((Offp.refl (fun z => z = w1.heap.size) W2).row (b := w1.heap.size) rfl (Qbr ro wi le ke n id vo x zKC (.slice none 0 0) (.slice none 0 0) (.slice none 0 0) (.slice none 0 0)))
    refine hK.out _ _ (MkS.out _ I.b) fun hH => ?_; clear hK K; try simp only [zX,zY]
    refine zdn ?_
    go_wp2_with fail
    go_meet
    rw [updP_same] at C
    exact ⟨x, w1.heap.size, rfl, hpx, I, C⟩
  . simp only [zG]
    go_simp
    have O := Blk.new u0 77 Qad
    have C := C.fresh (Qab (Below.refl _ u0) (.cells Qad 77)) 9 (fmB u0.heap.size 77 Qad) ⟨O, Nat.le_refl _, O.lt⟩
    have hb : w.heap.size + 1 < u0.heap.size := I.r.lt
    have I := I.below (Qab (Below.refl _ u0) (.cells Qad 77))
    refine hK.out _ _ (MkS.out _ I.b) fun hH => ?_; clear hK K; try simp only [zX,zY]
    generalize u0.alloc (.cells Qad 77) = W2 at *
    refine zR1 2 (fun K hK => ?_)
    simp only [zG]
    go_simp
    refine (HH.out _ (HG.out.below I.bl)).mono ?_
    rintro e w1 ⟨x, rfl, hpx, hox, g⟩
    have C := C.fresh g 2 (fmK x) hox
    have I := I.below g
    have O := O.below g O.lt
    clear g hox
    refine hK.out _ _ (MkS.out _ I.b) fun hH => ?_; clear hK K; try simp only [zX,zY]
    refine zt1 6 ?_; refine ztn (h := ?_); try simp only [zX,zY]
    refine zte ?_
    refine zR1 8 (fun K hK => ?_)
    simp only [zG]
    rw [if_pos (by rfl)]
    refine wp_store_row 77 _ _ rfl u0.heap.size (Qbr ro wi le ke n id vo x zKC (.slice none 0 0) (.slice none 0 0) (.slice none 0 0) (.slice none 0 0)) rfl rfl 77 Qad O (by kernel_rfl) rfl (Qfi _ _ _ _ _ _ _ _ _ rfl rfl rfl rfl) ?_
    have C := C.put 9 u0.heap.size rfl (Qbr ro wi le ke n id vo x zKC (.slice none 0 0) (.slice none 0 0) (.slice none 0 0) (.slice none 0 0)) ((Offp.refl (fun z => z = u0.heap.size) w1).row (b := u0.heap.size) rfl _) (O.row _)
    have I := I.offp hb ((Offp.refl (fun z => z = u0.heap.size) w1).row (b := u0.heap.size) rfl (Qbr ro wi le ke n id vo x zKC (.slice none 0 0) (.slice none 0 0) (.slice none 0 0) (.slice none 0 0)))
    refine hK.out _ _ (MkS.out _ I.b) fun hH => ?_; clear hK K; try simp only [zX,zY]
    refine zdn ?_
    go_wp2_with fail
    go_meet
    rw [updP_last] at C
    exact ⟨x, u0.heap.size, rfl, hpx, I, C⟩
 case rest =>
  obtain ⟨x, b, rfl, hpx, I, C⟩ := hcut
  obtain ⟨O, hb⟩ := C.box 9 rfl
  have hmk := Qby (P := Tryz.prog) Tryz.underlying51 infoBool (by decide) n (by omega)
  have k18 : wc.cell? ⟨b, 18, none⟩ = some (.slice none 0 0) := O.cell (i := 18) rfl
  have f18 := O.thaw 18
  have lb := O.lt
  have HC := hidP C
  have HI := hidP I
  have HO := hidP O
  clear C I O
  go_upto_region 3 with fail
  have C1 := HC.out.putMade b rfl 18 n 3 (by decide) false (.bool false) rfl 4 (Qbr ro wi le ke n id vo x zKC (.slice (some ⟨wc.heap.size, 0, none⟩) n n) (.slice none 0 0) (.slice none 0 0) (.slice none 0 0)) (nodeU_v ..)
  have HI := hidP (HI.out.putMade hb 18 (.slice (some ⟨wc.heap.size, 0, none⟩) n n) (.cells (madeCells #[Value.bool false] n) 4))
  clear HC HO k18 f18 lb hmk
  generalize wc.heap.size = B1 at *
  generalize (wc.setCell ⟨b, 18, none⟩ (.slice (some ⟨B1, 0, none⟩) n n)).alloc (.cells (madeCells #[Value.bool false] n) 4) = W2 at *
  have HC := hidP C1
  clear C1
  have HR := hidP (repeat_any n hn (some ⟨W2.heap.size, 0, none⟩) (W2.alloc (.cells #[.int .i64 1] 3)) (Qd3 (Blk.new W2 _ _) (by rfl) trivial : Sub _ _ _ (fun _ => True)).at)
  rw [World.size_alloc] at HR
  go_wp2_with fail
  refine HR.out.mono ?_
  rintro e w3 ⟨rfl, g3, p3⟩
  have gA : Below W2.heap.size W2 w3 := (Qab (Below.refl _ W2) (.cells #[.int .i64 1] 3)).trans (g3.mono (by simp))
  have C := HC.out.fresh gA 4 (fmSub (some ⟨W2.heap.size + 1, 0, none⟩) (List.replicate n (1 : Int))) (Qd3 p3 (by rw [Qea (v := .int .i64 1) rfl]; simp [Qdv]) ⟨by omega, p3.lt⟩)
  have I := HI.out.below gA
  obtain ⟨O, _⟩ := C.box 9 rfl
  have k19 : w3.cell? ⟨b, 19, none⟩ = some (.slice none 0 0) := O.cell (i := 19) rfl
  have f19 := O.thaw 19
  have lb := O.lt
  clear gA g3 p3 HC HI HR
  generalize W2.heap.size + 1 = B2 at *
  have C := C.put 9 b rfl (Qbr ro wi le ke n id vo x zKC (.slice (some ⟨B1, 0, none⟩) n n) (.slice (some ⟨B2, 0, none⟩) n n) (.slice none 0 0) (.slice none 0 0)) ((Offp.refl (fun z => z = b) w3).put 19 (.slice (some ⟨B2, 0, none⟩) n n)) (by have := O.setAt 19 (.slice (some ⟨B2, 0, none⟩) n n); rwa [nodeU_n] at this)
  have HI := hidP (I.offp (by omega) ((Offp.refl (fun z => z = b) w3).put 19 (.slice (some ⟨B2, 0, none⟩) n n)))
  have HC := hidP C
  clear C I O
  go_upto_region 4 with fail
  clear k19 f19 lb
  generalize w3.setCell ⟨b, 19, none⟩ (.slice (some ⟨B2, 0, none⟩) n n) = W4 at *
  obtain ⟨O, _⟩ := HC.out.box 9 rfl
  have hmk := Qby (P := Tryz.prog) Tryz.underlying28 Qdf (by decide) n (by omega)
  have k20 : W4.cell? ⟨b, 20, none⟩ = some (.slice none 0 0) := O.cell (i := 20) rfl
  have f20 := O.thaw 20
  have lb := O.lt
  have C := HC.out.putMade b rfl 20 n 5 (by decide) (0 : Int) (.int .i64 0) rfl 3 (Qbr ro wi le ke n id vo x zKC (.slice (some ⟨B1, 0, none⟩) n n) (.slice (some ⟨B2, 0, none⟩) n n) (.slice (some ⟨W4.heap.size, 0, none⟩) n n) (.slice none 0 0)) (nodeU_q ..)
  have HI := hidP (HI.out.putMade hb 20 (.slice (some ⟨W4.heap.size, 0, none⟩) n n) (.cells (madeCells #[Value.int .i64 0] n) 3))
  clear HC O
  have HC := hidP C
  clear C
  go_upto_region 5 with fail
  clear k20 f20 lb hmk
  generalize W4.heap.size = B3 at *
  generalize (W4.setCell ⟨b, 20, none⟩ (.slice (some ⟨B3, 0, none⟩) n n)).alloc (.cells (madeCells #[Value.int .i64 0] n) 3) = W5 at *
  obtain ⟨O, _⟩ := HC.out.box 9 rfl
  have k2 : W5.cell? ⟨b, 2, none⟩ = some (.int .i64 0) := O.cell (i := 2) rfl
  have k21 : W5.cell? ⟨b, 21, none⟩ = some (.int .i64 0) := O.cell (i := 21) rfl
  have f21 := O.thaw 21
  have lb := O.lt
  have C := HC.out.put 9 b rfl (Qbr ro wi le ke n id vo x zKC (.slice (some ⟨B1, 0, none⟩) n n) (.slice (some ⟨B2, 0, none⟩) n n) (.slice (some ⟨B3, 0, none⟩) n n) (.slice none 0 0)) ((Offp.refl (fun z => z = b) W5).put 21 (.int .i64 0)) (by have := O.setAt 21 (.int .i64 0); rwa [nodeU_c] at this)
  have HI := hidP (HI.out.offp (by omega) ((Offp.refl (fun z => z = b) W5).put 21 (.int .i64 0)))
  clear HC O
  have HC := hidP C
  clear C
  go_upto_region 6 with fail
  clear k2 k21 f21 lb
  generalize W5.setCell ⟨b, 21, none⟩ (.int .i64 0) = W6 at *
  obtain ⟨O, _⟩ := HC.out.box 9 rfl
  have k5 : W6.cell? ⟨b, 5, none⟩ = some (.slice x.rA x.rs.length x.rc) := O.cell (i := 5) rfl
  have k6 : W6.cell? ⟨b, 6, none⟩ = some (.slice x.mA x.ms.length x.mc) := O.cell (i := 6) rfl
  have k7 : W6.cell? ⟨b, 7, none⟩ = some (.slice x.gA x.gs.length x.gc) := O.cell (i := 7) rfl
  have k8 : W6.cell? ⟨b, 8, none⟩ = some (.int .i64 x.time) := O.cell (i := 8) rfl
  have k9 : W6.cell? ⟨b, 9, none⟩ = some (.slice x.dA x.ds.length x.dc) := O.cell (i := 9) rfl
  have k10 : W6.cell? ⟨b, 10, none⟩ = some (.slice x.lA x.ls.length x.lc) := O.cell (i := 10) rfl
  have lb := O.lt
  have hf := Qeu hr4.out hpx
  have hxa : KAt W6 x := by obtain ⟨_, _, col, co⟩ := HC.out; exact (show KOwn W6 x _ from co 2).at
  have HK := hidP (Qh7 x.rA x.rc x.rs x.mA x.mc x.ms x.gA x.gc x.gs x.time x.dA x.dc x.ds x.lA x.lc x.ls hf.1.rl hf.1.ml hf.1.gl hf.1.dl hf.1.ll hf.1.ri hf.1.mi hf.1.gi W6 hxa)
  clear hxa hf O
  go_wp2_with fail
  refine HK.out.mono ?_
  rintro e w7 ⟨y, he, hpy, hoy, g7⟩
  simp only [KC.cells] at he
  subst he
  replace hpy : y.p = newK B ro := hpy.trans hpx
  have C := HC.out.fresh g7 6 (fmK y) hoy
  have I := HI.out.below g7
  clear k5 k6 k7 k8 k9 k10 lb HK HC HI hoy g7
  obtain ⟨O, _⟩ := C.box 9 rfl
  have k22 : w7.cell? ⟨b, 22, none⟩ = some (.slice none 0 0) := O.cell (i := 22) rfl
  have f22 := O.thaw 22
  have k23 : w7.cell? ⟨b, 23, none⟩ = some (.slice none 0 0) := O.cell (i := 23) rfl
  have f23 := O.thaw 23
  have k24 : w7.cell? ⟨b, 24, none⟩ = some (.slice none 0 0) := O.cell (i := 24) rfl
  have f24 := O.thaw 24
  have k25 : w7.cell? ⟨b, 25, none⟩ = some (.int .i64 0) := O.cell (i := 25) rfl
  have f25 := O.thaw 25
  have k26 : w7.cell? ⟨b, 26, none⟩ = some (.slice none 0 0) := O.cell (i := 26) rfl
  have f26 := O.thaw 26
  have k27 : w7.cell? ⟨b, 27, none⟩ = some (.slice none 0 0) := O.cell (i := 27) rfl
  have f27 := O.thaw 27
  have lb := O.lt
  have C := C.put 9 b rfl (Qbr ro wi le ke n id vo x y (.slice (some ⟨B1, 0, none⟩) n n) (.slice (some ⟨B2, 0, none⟩) n n) (.slice (some ⟨B3, 0, none⟩) n n) (.slice none 0 0)) (((((((Offp.refl (fun z => z = b) w7).put 22 (.slice y.rA y.rs.length y.rc)).put 23 (.slice y.mA y.ms.length y.mc)).put 24 (.slice y.gA y.gs.length y.gc)).put 25 (.int .i64 y.time)).put 26 (.slice y.dA y.ds.length y.dc)).put 27 (.slice y.lA y.ls.length y.lc)) (by have := ((((((O.setAt 22 (.slice y.rA y.rs.length y.rc)).setAt 23 (.slice y.mA y.ms.length y.mc)).setAt 24 (.slice y.gA y.gs.length y.gc)).setAt 25 (.int .i64 y.time)).setAt 26 (.slice y.dA y.ds.length y.dc)).setAt 27 (.slice y.lA y.ls.length y.lc)); rwa [nodeU_y] at this)
  have HI := hidP (I.offp (by omega) (((((((Offp.refl (fun z => z = b) w7).put 22 (.slice y.rA y.rs.length y.rc)).put 23 (.slice y.mA y.ms.length y.mc)).put 24 (.slice y.gA y.gs.length y.gc)).put 25 (.int .i64 y.time)).put 26 (.slice y.dA y.ds.length y.dc)).put 27 (.slice y.lA y.ls.length y.lc)))
  have HC := hidP C
  clear C I O
  go_upto_region 7 with fail
  clear k22 f22 k23 f23 k24 f24 k25 f25 k26 f26 k27 f27 lb
  generalize ((((((w7.setCell ⟨b, 22, none⟩ (.slice y.rA y.rs.length y.rc)).setCell ⟨b, 23, none⟩ (.slice y.mA y.ms.length y.mc)).setCell ⟨b, 24, none⟩ (.slice y.gA y.gs.length y.gc)).setCell ⟨b, 25, none⟩ (.int .i64 y.time)).setCell ⟨b, 26, none⟩ (.slice y.dA y.ds.length y.dc)).setCell ⟨b, 27, none⟩ (.slice y.lA y.ls.length y.lc)) = W8 at *
  have HGw := hidP (HG.out.below HI.out.bl)
  go_wp2_with fail
  refine (HWN.out _ HGw.out).mono ?_
  rintro e w9 ⟨a4, c4, rfl, g9⟩
  have C := HC.out.below g9
  have I := HI.out.below g9
  clear HC HI HGw g9
  obtain ⟨O, _⟩ := C.box 9 rfl
  have k28 : w9.cell? ⟨b, 28, none⟩ = some (.slice none 0 0) := O.cell (i := 28) rfl
  have f28 := O.thaw 28
  have k29 : w9.cell? ⟨b, 29, none⟩ = some (.int .i64 0) := O.cell (i := 29) rfl
  have f29 := O.thaw 29
  have lb := O.lt
  have C := C.put 9 b rfl (Qbr ro wi le ke n id vo x y (.slice (some ⟨B1, 0, none⟩) n n) (.slice (some ⟨B2, 0, none⟩) n n) (.slice (some ⟨B3, 0, none⟩) n n) (.slice a4 0 c4)) (((Offp.refl (fun z => z = b) w9).put 28 (.slice a4 0 c4)).put 29 (.int .i64 0)) (by have := (O.setAt 28 (.slice a4 0 c4)).setAt 29 (.int .i64 0); rwa [nodeU_d] at this)
  have HI := hidP (I.offp (by omega) (((Offp.refl (fun z => z = b) w9).put 28 (.slice a4 0 c4)).put 29 (.int .i64 0)))
  have HC := hidP C
  clear C I O
  go_upto_region 8 with fail
  clear k28 f28 k29 f29 lb
  generalize (w9.setCell ⟨b, 28, none⟩ (.slice a4 0 c4)).setCell ⟨b, 29, none⟩ (.int .i64 0) = W9 at *
  obtain ⟨O, _⟩ := HC.out.box 9 rfl
  refine wp_region_lit ?_
  refine Qar rfl 77 _ rfl (b := b) rfl O Tryz.underlying77 (by kernel_rfl) ?_
  refine Qap rfl 77 _ _ rfl (g := w.heap.size + 1) (cells := Qbr ro wi le ke n id vo x y (.slice (some ⟨B1, 0, none⟩) n n) (.slice (some ⟨B2, 0, none⟩) n n) (.slice (some ⟨B3, 0, none⟩) n n) (.slice a4 0 c4)) rfl rfl HI.out.r (by kernel_rfl) ZS.out (Qfi _ _ _ _ _ _ _ _ _ rfl rfl rfl rfl) ?_
  refine wpList_nil ?_
  have HR := hidP (HI.out.r.row (Qbr ro wi le ke n id vo x y (.slice (some ⟨B1, 0, none⟩) n n) (.slice (some ⟨B2, 0, none⟩) n n) (.slice (some ⟨B3, 0, none⟩) n n) (.slice a4 0 c4)))
  have HB := hidP (Qcf HI.out.bl (show w.heap.size <= w.heap.size + 1 by omega) (Qbr ro wi le ke n id vo x y (.slice (some ⟨B1, 0, none⟩) n n) (.slice (some ⟨B2, 0, none⟩) n n) (.slice (some ⟨B3, 0, none⟩) n n) (.slice a4 0 c4)))
  have k := (Offp.refl (fun z => z = w.heap.size + 1) W9).row (b := w.heap.size + 1) rfl (Qbr ro wi le ke n id vo x y (.slice (some ⟨B1, 0, none⟩) n n) (.slice (some ⟨B2, 0, none⟩) n n) (.slice (some ⟨B3, 0, none⟩) n n) (.slice a4 0 c4))
  have hk := k.size
  obtain ⟨fm, hw, col, co⟩ := HC.out
  have d : ∀ j z, Tg w W9 col j z -> ¬ z = w.heap.size + 1 := fun j z hz e => by have := hz.1.1; omega
  have m : ∀ j z, Tg w W9 col j z -> Tg w (W9.setRow (w.heap.size + 1) (Qbr ro wi le ke n id vo x y (.slice (some ⟨B1, 0, none⟩) n n) (.slice (some ⟨B2, 0, none⟩) n n) (.slice (some ⟨B3, 0, none⟩) n n) (.slice a4 0 c4))) col j z := fun j z hz => ⟨⟨hz.1.1, by have := hz.1.2; omega⟩, hz.2⟩
  have q2 := hidP (((show KOwn W9 x _ from co 2).offp k (d 2)).mono (m 2))
  have q3 := hidP (((show Sub W9 (some ⟨B1, 0, none⟩) (List.replicate n false) _ from co 3).offp k (d 3)).mono (m 3))
  have q4 := hidP (((show Sub W9 (some ⟨B2, 0, none⟩) (List.replicate n (1 : Int)) _ from co 4).offp k (d 4)).mono (m 4))
  have q5 := hidP (((show Sub W9 (some ⟨B3, 0, none⟩) (List.replicate n (0 : Int)) _ from co 5).offp k (d 5)).mono (m 5))
  have q6 := hidP (((show KOwn W9 y _ from co 6).offp k (d 6)).mono (m 6))
  clear fm hw co d m k hk O HC HI
  go_wp2
  exact bodyPost_ret (v := .agg (Qbr ro wi le ke n id vo x y (.slice (some ⟨B1, 0, none⟩) n n) (.slice (some ⟨B2, 0, none⟩) n n) (.slice (some ⟨B3, 0, none⟩) n n) (.slice a4 0 c4))) (Qe9 (fn := Tryz.f36) (p := 8) (by rfl) rfl HR.out Tryz.underlying77 (by kernel_rfl)) rfl ⟨x, y, _, _, _, a4, n, n, n, c4, rfl, hpx, hpy, HB.out, col, q2.out, q3.out, q4.out, q5.out, q6.out⟩
end Go.Proofs.YtenhcjkkpnlbeaaGreatDoor.Gen
namespace Go.Proofs.YtenhcjkkpnlbeaaGreatDoor.Gen
open ChangeShapes WideShapes ChangeAt RowKit Joins Deep Base
structure Nw (q : PC) (B : Bool) (ro id : Int) (n : Nat) : Prop where
  id : q.id = id
  te : q.te = 0
  vo : q.vo = Qd7 B
  base : q.base = 0
  bt : q.bt = 0
  l : q.l = []
  x : q.x.p = newK B ro
  role : q.role = 0
  vs : q.vs = List.replicate n false
  ns : q.ns = List.replicate n 1
  ps : q.ps = List.replicate n 0
  com : q.com = 0
  y : q.y.p = newK B ro
  db : q.db = []
  su : q.su = 0
  hs : q.hs = []
theorem Nw.same {q p : PC} {B : Bool} {ro id : Int} {n : Nat} (h : Nw q B ro id n) (k : Nw p B ro id n) : SameP q p :=
 ⟨h.id.trans k.id.symm, h.te.trans k.te.symm, h.vo.trans k.vo.symm, h.base.trans k.base.symm, h.bt.trans k.bt.symm, h.l.trans k.l.symm, h.x.trans k.x.symm, h.role.trans k.role.symm, h.vs.trans k.vs.symm, h.ns.trans k.ns.symm, h.ps.trans k.ps.symm, h.com.trans k.com.symm, h.y.trans k.y.symm, h.db.trans k.db.symm, h.su.trans k.su.symm, by rw [h.hs, k.hs]⟩
theorem Nw.fit {q : PC} {B : Bool} {ro id : Int} {n : Nat} (h : Nw q B ro id n) (hr : B = true -> ro <= 4) (hn : n <= 5) : PFit q := by
 obtain ⟨f1, k1⟩ := Qeu hr h.x
 obtain ⟨f2, k2⟩ := Qeu hr h.y
 refine ⟨by simp [h.l], f1, by simp [h.vs]; omega, by simp [h.ns]; omega, by simp [h.ps]; omega, f2, by simp [h.db], by simp [h.hs], by simp [h.hs], ?_⟩
 rw [h.l, h.vs, h.ns, h.ps, h.db, h.hs]
 simp [Qak]
 omega
theorem Qew {x : KC} {B : Bool} {ro : Int} (hr : B = true -> ro <= 4) (h : x.p = newK B ro) : KAsk x := by
 refine ⟨(Qeu hr h).1, fun y hy => ?_, fun y hy => ?_⟩
 . have hm : y.p ∈ (newK B ro).rs := by rw [← h]; exact List.mem_map_of_mem hy
   have e : y.p = (⟨0, 0, []⟩ : PR) := by
    cases B
    . simp [newK] at hm
    . simp only [newK, if_true] at hm; exact (List.mem_replicate.1 hm).2
   have e1 : y.start = 0 := congrArg PR.start e
   have e2 : y.next = 0 := congrArg PR.next e
   have e3 : y.its = [] := congrArg PR.its e
   exact ⟨by rw [e1]; exact ⟨by omega, by omega⟩, by rw [e2]; exact ⟨by omega, by omega⟩, by simp [e3], by simp [e3]⟩
 . have hm : y ∈ (newK B ro).ls := by rw [← h]; exact hy
   have e : y = zAn := by
    cases B
    . simp [newK] at hm
    . simp only [newK, if_true] at hm; exact (List.mem_replicate.1 hm).2
   subst e
   exact ⟨⟨by simp [zAn], by simp [zAn]⟩, ⟨by simp [zAn], by simp [zAn]⟩, by simp [zAn, ByteArray.size], by simp [zAn, ByteArray.size]⟩
theorem Nw.ok {q p : PC} {B : Bool} {ro id : Int} {n : Nat} (h : Nw q B ro id n) (k : Nw p B ro id n) (wi le ke size : Int) : okQ ro wi le ke size q = okQ ro wi le ke size p := by
 unfold okQ peerB
 have hx : q.x.p = p.x.p := h.x.trans k.x.symm
 have hy : q.y.p = p.y.p := h.y.trans k.y.symm
 rw [h.id, h.te, h.vo, h.base, h.bt, h.l, h.role, h.vs, h.ns, h.ps, h.com, h.su, h.db, h.hs, k.id, k.te, k.vo, k.base, k.bt, k.l, k.role, k.vs, k.ns, k.ps, k.com, k.su, k.db, k.hs]
 simp only [Qhe, keepB_p hx, keepB_p hy]
theorem okQ_bad {ro wi le ke : Int} (h : setB ro wi le ke = false) (size : Int) (p : PC) : okQ ro wi le ke size p = false := by
 unfold okQ peerB Qhe Qcy
 simp [h]
theorem specOkQ {q : PC} {B : Bool} {ro wi le ke id : Int} {n : Nat} (h : Nw q B ro id n) (hr : B = true -> ro <= 4) (hn : n <= 5) (W : World) (hW : PAt W q) :
 Calls Tryz.prog 34 #[.agg (Qag ro wi le ke), .agg (Qam q), .int .i64 (n : Int)] W fun e w' => e = .returned (.bool (okQ ro wi le ke n q)) /\ Below W.heap.size W w' := by
 have f := h.fit hr hn
 have k := Qex (fun z => rpcB (n : Int) z.kind z.frm z.too z.term z.index z.iterm z.commit z.l z.snap) ro wi le ke q.id q.te q.vo q.base q.bt q.role q.com q.su n q.A q.vA q.nA q.pA q.dA q.hA q.cap q.vs.length q.vc q.ns.length q.nc q.ps.length q.pc q.dc q.hc q.l q.ns q.ps q.db q.hs q.x q.y
  f.ll (by rw [h.l]; simp) rfl rfl f.vl f.nl f.pl (by have := f.dl; omega) f.hl (Qew hr h.x) (Qew hr h.y) ⟨by omega, by omega⟩ W hW.la hW.xa hW.na hW.pa hW.ya hW.ha (by rw [h.hs]; simp)
 exact k
end Go.Proofs.YtenhcjkkpnlbeaaGreatDoor.Gen
