/-
  GroupNew of the specification and of the program at this seat: they answer alike. No condition.
-/
import Derived.Test.YtenhcjkkpnlbeaaGreatDoorOwnS
import Derived.Test.YtenhcjkkpnlbeaaGreatDoorMakOk2
import Derived.Deep.CutRange
set_option linter.unusedVariables false
set_option linter.unusedSimpArgs false
set_option maxRecDepth 100000
set_option maxHeartbeats 8000000
namespace Go.Proofs.YtenhcjkkpnlbeaaGreatDoor.Gen
open ChangeShapes WideShapes ChangeAt RowKit Joins Deep Base
def newO (rows : Int) : List Int := if inB rows 1 4 then List.replicate rows.toNat 0 else []
theorem newO_le (rows : Int) : (newO rows).length <= 4 := by
 unfold newO
 cases h : inB rows 1 4
 . simp
 . have : 1 <= rows /\ rows <= 4 := by simpa [inB] using h
   simp; omega
theorem made_in (w : World) (n : Nat) (t : TypeId) : In (w.alloc (.cells (madeCells #[Value.int .i64 0] n) t)) w.heap.size 0 (List.replicate n (0 : Int)) := by
 intro j v hv
 have hj : j < n := by
  have := (List.getElem?_eq_some_iff.1 hv).1
  rw [Qa6, List.length_replicate] at this
  have e : n * Cel.k Int = n := Nat.mul_one n
  omega
 have hv' : v = .int .i64 0 := by
  have h2 := Qfq (List.replicate n (0 : Int)) j (by simpa using hj) 0 (by show 0 < 1; omega)
  have e : j * Cel.k Int + 0 = j := by show j * 1 + 0 = j; omega
  rw [e, hv] at h2
  simpa [Cel.cs] using h2
 subst hv'
 rw [Nat.zero_add]
 have : j < (madeCells #[Value.int .i64 0] n).size := by rw [size_madeCells]; exact hj
 simp [this, madeCells]
 exact ⟨j, by simp [hj], by simp [Nat.mod_one]⟩
theorem Qma (rows : Int) (w : World) : Calls Tryz.prog 70 #[.int .i64 rows] w fun e w' => ∃ (a : Option Addr) (c : Nat) (F : List Nat), e = .returned (.agg (Qa3 0 none 0 0 none 0 0 a (newO rows).length c)) /\ Below w.heap.size w w' /\ Gp w' none none a [] [] (newO rows) F /\ ∀ x ∈ F, w.heap.size <= x := by
 cases hx : inB rows 1 4
 . have hF : Hid (newO rows = []) := by show _ = _; simp [newO, hx]
   go_enter Tryz.func70, Tryz.ntmps70
   go_wp2_with (go_at_call 11; refine (in_any _ _ _ _).mono ?_; rw [hx]; rintro e w1 ⟨rfl, rfl⟩)
   refine bodyPost_ret (v := .agg Qg8) (by simp [results, Tryz.results70, go_sem]) rfl ?_
   rw [hF.out]
   exact ⟨none, 0, [], rfl, by repeat (first | exact Below.refl _ _ | assumption | refine via0 (by assumption) ?_ | refine Below.drew ?_ | refine Qab ?_ _), ⟨[], [], [], rfl, Sl.nil _ _, Sl.nil _ _, Sl.nil _ _, by simp⟩, by simp⟩
 . obtain ⟨h1, h4⟩ : 1 <= rows /\ rows <= 4 := by simpa [inB] using hx
   obtain ⟨n, rfl⟩ : ∃ n : Nat, rows = n := ⟨rows.toNat, by omega⟩
   have hF : Hid (newO (n : Int) = List.replicate n 0) := by show _ = _; simp [newO, hx]
   have hmk := Qby (P := Tryz.prog) Tryz.underlying28 Qdf (by omega) n (by omega)
   go_enter Tryz.func70, Tryz.ntmps70
   go_wp2_with (go_at_call 11; refine (in_any _ _ _ _).mono ?_; rw [hx]; rintro e w1 ⟨rfl, rfl⟩)
   refine bodyPost_ret (v := .agg (Qa3 0 none 0 0 none 0 0 (some ⟨w.heap.size + 1, 0, none⟩) n n)) (by simp [results, Tryz.results70, go_sem]) rfl ?_
   rw [hF.out]
   refine ⟨some ⟨w.heap.size + 1, 0, none⟩, n, [w.heap.size + 1], by simp, by repeat (first | exact Below.refl _ _ | assumption | refine via0 (by assumption) ?_ | refine Below.drew ?_ | refine Qab ?_ _), ⟨[], [], [w.heap.size + 1], rfl, Sl.nil _ _, Sl.nil _ _, .inr ⟨w.heap.size + 1, 0, rfl, rfl, by simp, ?_, ?_⟩, by simp⟩, by simp⟩
   . have := made_in (w.alloc (.cells (Qa3 0 none 0 0 none 0 0 (some ⟨w.heap.size + 1, 0, none⟩) n n) 110)) n 3
     rwa [World.size_alloc] at this
   . have := Qes (w.alloc (.cells (Qa3 0 none 0 0 none 0 0 (some ⟨w.heap.size + 1, 0, none⟩) n n) 110)) #[Value.int .i64 0] n 1 3
     rw [World.size_alloc, Nat.mul_one] at this
     rw [List.length_replicate]
     show World.there _ _ _ (n * 1)
     rw [Nat.mul_one]
     exact this
theorem Qmx (rows : Int) (w : World) : Calls Tryz.prog 177 #[.int .i64 rows] w fun e w' => ∃ (a : Option Addr) (c : Nat) (F : List Nat), e = .returned (.agg (Qa3 0 none 0 0 none 0 0 a (newO rows).length c)) /\ Below w.heap.size w w' /\ Gp w' none none a [] [] (newO rows) F /\ ∀ x ∈ F, w.heap.size <= x := by
 cases hx : inB rows 1 4
 . have hF : Hid (newO rows = []) := by show _ = _; simp [newO, hx]
   go_enter Tryz.func177, Tryz.ntmps177
   go_wp2_with (go_at_call 76; refine (within_any _ _ _ _).mono ?_; rw [hx]; rintro e w1 ⟨rfl, rfl⟩)
   refine bodyPost_ret (v := .agg Qg8) (by simp [results, Tryz.results177, go_sem]) rfl ?_
   rw [hF.out]
   exact ⟨none, 0, [], rfl, by repeat (first | exact Below.refl _ _ | assumption | refine via0 (by assumption) ?_ | refine Below.drew ?_ | refine Qab ?_ _), ⟨[], [], [], rfl, Sl.nil _ _, Sl.nil _ _, Sl.nil _ _, by simp⟩, by simp⟩
 . obtain ⟨h1, h4⟩ : 1 <= rows /\ rows <= 4 := by simpa [inB] using hx
   obtain ⟨n, rfl⟩ : ∃ n : Nat, rows = n := ⟨rows.toNat, by omega⟩
   have hF : Hid (newO (n : Int) = List.replicate n 0) := by show _ = _; simp [newO, hx]
   have hmk := Qby (P := Tryz.prog) Tryz.underlying28 Qdf (by omega) n (by omega)
   go_enter Tryz.func177, Tryz.ntmps177
   go_wp2_with (go_at_call 76; refine (within_any _ _ _ _).mono ?_; rw [hx]; rintro e w1 ⟨rfl, rfl⟩)
   refine bodyPost_ret (v := .agg (Qa3 0 none 0 0 none 0 0 (some ⟨w.heap.size + 1, 0, none⟩) n n)) (by simp [results, Tryz.results177, go_sem]) rfl ?_
   rw [hF.out]
   refine ⟨some ⟨w.heap.size + 1, 0, none⟩, n, [w.heap.size + 1], by simp, by repeat (first | exact Below.refl _ _ | assumption | refine via0 (by assumption) ?_ | refine Below.drew ?_ | refine Qab ?_ _), ⟨[], [], [w.heap.size + 1], rfl, Sl.nil _ _, Sl.nil _ _, .inr ⟨w.heap.size + 1, 0, rfl, rfl, by simp, ?_, ?_⟩, by simp⟩, by simp⟩
   . have := made_in (w.alloc (.cells (Qa3 0 none 0 0 none 0 0 (some ⟨w.heap.size + 1, 0, none⟩) n n) 110)) n 3
     rwa [World.size_alloc] at this
   . have := Qes (w.alloc (.cells (Qa3 0 none 0 0 none 0 0 (some ⟨w.heap.size + 1, 0, none⟩) n n) 110)) #[Value.int .i64 0] n 1 3
     rw [World.size_alloc, Nat.mul_one] at this
     rw [List.length_replicate]
     show World.there _ _ _ (n * 1)
     rw [Nat.mul_one]
     exact this
end Go.Proofs.YtenhcjkkpnlbeaaGreatDoor.Gen
namespace Go.Proofs.YtenhcjkkpnlbeaaGreatDoor.Gen
open ChangeShapes WideShapes ChangeAt RowKit Joins Deep Base
def updm (m : Nat -> Bool) (i : Nat) : Nat -> Bool := fun j => if j = i then true else m j
def updv (v : Nat -> Value) (i : Nat) (x : Value) : Nat -> Value := fun j => if j = i then x else v j
def sl (m : Nat -> Bool) (v : Nat -> Value) (i : Nat) : Value := if m i then v i else undef
def latB (md : Region.Mode) (ops : Array Oper) (br : List Nat) (lst : (Nat -> Bool) -> Array Bool) (pre : Nat -> (Nat -> Bool) -> Bool) : Nat -> (Nat -> Bool) -> Bool
  | 0, m => br.all m
  | d + 1, m => !(Region.ready md ops (lst m)).isEmpty && (Region.ready md ops (lst m)).all (fun i => br.contains i && pre i m && latB md ops br lst pre d (updm m i))
theorem Qf5 {Pg : Program} {md : Region.Mode} {ops : Array Oper} {Q : Go.Exit -> Act -> World -> Prop} {S : World -> Prop} {f : Nat}
 (br : List Nat) (lst : (Nat -> Bool) -> Array Bool) (pre : Nat -> (Nat -> Bool) -> Bool) (T : (Nat -> Bool) -> Act -> World -> Prop)
 (hl : ∀ i ∈ br, ∀ m, (lst m).setIfInBounds i true = lst (updm m i))
 (step : ∀ i ∈ br, ∀ m a w, pre i m = true -> T m a w -> S w -> ∃ o, ops[i]? = some o /\ ∀ K' : Act -> World -> Prop, Shut (∀ a w, S w -> T (updm m i) a w -> K' a w) -> if Region.wanted o (yielded ops a.tmps) = true then Oper.wp Pg o a w K' Q else K' (a.put o.dst undef) w)
 (tail : ∀ m a w, br.all m = true -> T m a w -> S w -> wpAnyH Pg md ops Q S f (lst m) a w) :
 ∀ (d : Nat) (m : Nat -> Bool) (a : Act) (w : World), latB md ops br lst pre d m = true -> T m a w -> S w -> wpAnyH Pg md ops Q S (f + d) (lst m) a w
 | 0, m, a, w, h, hT, hS => tail m a w h hT hS
 | d + 1, m, a, w, h, hT, hS => by
  simp only [latB, Bool.and_eq_true, List.all_eq_true, Bool.not_eq_true', List.isEmpty_eq_false_iff] at h
  obtain ⟨h1, h2⟩ := h
  refine wpAnyH_all rfl h1 fun i hi => ?_
  obtain ⟨⟨h3, h4⟩, h5⟩ := h2 i hi
  have h3 : i ∈ br := by simpa using h3
  obtain ⟨o, ho, hK⟩ := step i h3 m a w h4 hT hS
  refine wpOp_step ho fun K' hK' => hK K' fun a' w' hS' hT' => hK' a' w' ⟨hS', ?_⟩
  rw [hl i h3 m]
  exact Qf5 br lst pre T hl step tail d (updm m i) a' w' h5 hT' hS'
structure Fm (Q : World -> (Nat -> Prop) -> Prop) : Prop where
  off : ∀ W W' S T, Q W S -> Offp T W W' -> (∀ z, S z -> ¬ T z) -> Q W' S
  mono : ∀ W S S', Q W S -> (∀ z, S z -> S' z) -> Q W S'
def TgN (n : Nat) (W : World) (col : Nat -> Nat) (k z : Nat) : Prop := (n <= z /\ z < W.heap.size) /\ col z = k
structure Lt (n : Nat) (W : World) (Part : Nat -> Value -> World -> (Nat -> Prop) -> Prop) (m : Nat -> Bool) (v : Nat -> Value) : Prop where
  hw : n <= W.heap.size
  co : ∃ col, ∀ j, m j = true -> Part j (v j) W (TgN n W col j)
section
variable {n : Nat} {W W' : World} {Part : Nat -> Value -> World -> (Nat -> Prop) -> Prop} {m : Nat -> Bool} {v : Nat -> Value}
theorem Lt.start (hw : n <= W.heap.size) (v : Nat -> Value) : Lt n W Part (fun _ => false) v := ⟨hw, fun _ => 0, fun _ e => by cases e⟩
theorem Lt.below (fm : ∀ j x, Fm (Part j x)) (L : Lt n W Part m v) (g : Below W.heap.size W W') : Lt n W' Part m v := by
 obtain ⟨hw, col, co⟩ := L
 have hs := g.size
 exact ⟨by omega, col, fun j hj => (fm j _).mono _ _ _ ((fm j _).off _ _ _ (fun _ => False) (co j hj) (Offp.of_below g) (fun _ _ e => e)) (fun z hz => ⟨⟨hz.1.1, by have := hz.1.2; omega⟩, hz.2⟩)⟩
theorem Lt.fresh (fm : ∀ j x, Fm (Part j x)) (L : Lt n W Part m v) (g : Below W.heap.size W W') (i : Nat) (x : Value) (q : Part i x W' (fun z => W.heap.size <= z /\ z < W'.heap.size)) : Lt n W' Part (updm m i) (updv v i x) := by
 obtain ⟨hw, col, co⟩ := L
 have hs := g.size
 refine ⟨by omega, fun z => if z < W.heap.size then col z else i, fun j hj => ?_⟩
 unfold updv
 unfold updm at hj
 split
 . rename_i e; subst e
   exact (fm _ _).mono _ _ _ q (fun z hz => ⟨⟨by omega, hz.2⟩, by dsimp only; rw [if_neg (by omega)]⟩)
 . rename_i e; rw [if_neg e] at hj
   exact (fm j _).mono _ _ _ ((fm j _).off _ _ _ (fun _ => False) (co j hj) (Offp.of_below g) (fun _ _ e => e)) (fun z hz => ⟨⟨hz.1.1, by have := hz.1.2; omega⟩, by dsimp only; rw [if_pos hz.1.2]; exact hz.2⟩)
theorem Lt.plain (fm : ∀ j x, Fm (Part j x)) (L : Lt n W Part m v) (i : Nat) (x : Value) (q : Part i x W (fun _ => False)) : Lt n W Part (updm m i) (updv v i x) :=
 L.fresh fm (Below.refl _ _) i x ((fm _ _).mono _ _ _ q (fun _ e => e.elim))
end
theorem Ql5 {Pg : Program} {md : Region.Mode} {ops : Array Oper} {Q : Go.Exit -> Act -> World -> Prop} {S : World -> Prop} {n1 : Nat} {l l1 : Array Bool} {T : Act -> World -> Prop} {a : Act} {w : World} (h : ∀ a w, T a w -> S w -> wpAnyH Pg md ops Q S n1 l1 a w) (hl : l = l1) (hT : T a w) (hS : S w) : wpAnyH Pg md ops Q S n1 l a w := hl ▸ h a w hT hS
end Go.Proofs.YtenhcjkkpnlbeaaGreatDoor.Gen
namespace Go.Proofs.YtenhcjkkpnlbeaaGreatDoor.Gen
open ChangeShapes WideShapes ChangeAt RowKit Joins Deep Base
section
variable {α : Type} [Cel α]
structure Md (W : World) (b : Nat) (l : List α) : Prop where
  lt : b < W.heap.size
  lst : In W b 0 l
  th : W.there b 0 (l.length * Cel.k α)
theorem Md.offp {S : Nat -> Prop} {W W' : World} {b : Nat} {l : List α} (h : Md W b l) (k : Offp S W W') (hb : ¬ S b) : Md W' b l := ⟨Nat.lt_of_lt_of_le h.lt k.size, h.lst.offp k h.lt hb, Qer h.th k h.lt hb⟩
theorem Md.below {W W' : World} {b : Nat} {l : List α} (h : Md W b l) (g : Below W.heap.size W W') : Md W' b l := h.offp (Offp.of_below (S := fun _ => False) g) (fun e => e)
theorem Qg5 (hk : 0 < Cel.k α) (W : World) (z : α) (cs : Array Value) (hcs : cs.toList = Cel.cs z) (n : Nat) (t : TypeId) : Md (W.alloc (.cells (madeCells cs (n * Cel.k α)) t)) W.heap.size (List.replicate n z) := by
 have hsz : cs.size = Cel.k α := by rw [← Array.length_toList, hcs, Cel.len]
 refine ⟨by simp, ?_, ?_⟩
 . intro j v hv
   have hj : j < n * Cel.k α := by have := (List.getElem?_eq_some_iff.1 hv).1; rwa [Qa6, List.length_replicate] at this
   have hd : j / Cel.k α * Cel.k α + j % Cel.k α = j := by rw [Nat.mul_comm]; exact Nat.div_add_mod j _
   have hq : j / Cel.k α < n := (Nat.div_lt_iff_lt_mul hk).2 hj
   have hr : j % Cel.k α < Cel.k α := Nat.mod_lt _ hk
   have h2 := Qfq (List.replicate n z) (j / Cel.k α) (by simpa using hq) (j % Cel.k α) hr
   rw [hd, hv] at h2
   simp only [List.getElem_replicate] at h2
   rw [← hcs, Array.getElem?_toList] at h2
   rw [Nat.zero_add]
   refine (Blk.new W t (madeCells cs (n * Cel.k α))).cell ?_
   simp only [madeCells, Array.getElem?_map, Array.getElem?_range, hj, if_true, Option.map_some, hsz]
   rw [getElem!_def, ← h2]
 . rw [List.length_replicate]; exact Qes W cs n _ t
end
def zRC : RC := ⟨0, 0, none, 0, []⟩
def zAn : An := ⟨0, 0, ⟨#[]⟩, ⟨#[]⟩⟩
def upd (o : Nat -> Option Nat) (i b : Nat) : Nat -> Option Nat := fun j => if j = i then some b else o j
structure KR (w W : World) (ro wi le ke : Int) (n : Nat) (V : Array Value) (o : Nat -> Option Nat) : Prop where
  bl : Below w.heap.size w W
  b1 : Blk W w.heap.size 24 (Qag ro wi le ke)
  b2 : Blk W (w.heap.size + 1) 48 Qa9
  at' : ∀ i b, o i = some b -> w.heap.size + 2 <= b /\ b < W.heap.size
  ne : ∀ i j b, o i = some b -> o j = some b -> i = j
  r : ∀ b, o 0 = some b -> Md W b (List.replicate n zRC)
  d : ∀ b, o 1 = some b -> Md W b (List.replicate 4 (0 : Int))
  l : ∀ b, o 2 = some b -> Md W b (List.replicate 4 zAn)
  g : ∀ b, o 3 = some b -> Blk W b 48 V
section
variable {w W : World} {ro wi le ke : Int} {n : Nat} {V : Array Value} {o : Nat -> Option Nat}
theorem KR.new (h : KR w W ro wi le ke n V o) (i : Nat) (ob : Obj)
 (hr : i = 0 -> Md (W.alloc ob) W.heap.size (List.replicate n zRC)) (hd : i = 1 -> Md (W.alloc ob) W.heap.size (List.replicate 4 (0 : Int))) (hl : i = 2 -> Md (W.alloc ob) W.heap.size (List.replicate 4 zAn)) (hg : i = 3 -> Blk (W.alloc ob) W.heap.size 48 V) :
 KR w (W.alloc ob) ro wi le ke n V (upd o i W.heap.size) := by
 have g : Below W.heap.size W (W.alloc ob) := Qab (Below.refl _ _) ob
 have hs : w.heap.size + 2 <= W.heap.size := h.b2.lt
 have hcase : ∀ j b, upd o i W.heap.size j = some b -> (j = i /\ b = W.heap.size) ∨ (j ≠ i /\ o j = some b) := fun j b e => by
  unfold upd at e
  split at e
  . next h1 => cases e; exact .inl ⟨h1, rfl⟩
  . next h1 => exact .inr ⟨h1, e⟩
 refine ⟨Qab h.bl _, h.b1.alloc _, h.b2.alloc _, ?_, ?_, ?_, ?_, ?_, ?_⟩
 . intro j b e
   rcases hcase j b e with ⟨_, rfl⟩ | ⟨_, e⟩
   . exact ⟨hs, by simp⟩
   . have := h.at' j b e; exact ⟨this.1, by simp; omega⟩
 . intro j k b e1 e2
   rcases hcase j b e1 with ⟨h1, h2⟩ | ⟨h1, e1⟩<;>rcases hcase k b e2 with ⟨h3, h4⟩ | ⟨h3, e2⟩
   . omega
   . have := (h.at' k b e2).2; omega
   . have := (h.at' j b e1).2; omega
   . exact h.ne j k b e1 e2
 . intro b e
   rcases hcase 0 b e with ⟨h1, rfl⟩ | ⟨_, e⟩
   . exact hr h1.symm
   . exact (h.r b e).below g
 . intro b e
   rcases hcase 1 b e with ⟨h1, rfl⟩ | ⟨_, e⟩
   . exact hd h1.symm
   . exact (h.d b e).below g
 . intro b e
   rcases hcase 2 b e with ⟨h1, rfl⟩ | ⟨_, e⟩
   . exact hl h1.symm
   . exact (h.l b e).below g
 . intro b e
   rcases hcase 3 b e with ⟨h1, rfl⟩ | ⟨_, e⟩
   . exact hg h1.symm
   . exact (h.g b e).alloc _
theorem KR.new0 (h : KR w W ro wi le ke n V o) (b : Nat) (hb : W.heap.size = b) : KR w (W.alloc (.cells (madeCells Qjc (n * 3)) 139)) ro wi le ke n V (upd o 0 b) := by
 subst hb
 exact h.new 0 _ (fun _ => Qg5 (α := RC) (by decide) W zRC Qjc rfl n _) (fun e => by cases e) (fun e => by cases e) (fun e => by cases e)
theorem KR.new1 (h : KR w W ro wi le ke n V o) (b : Nat) (hb : W.heap.size = b) : KR w (W.alloc (.cells (madeCells #[.int .i64 0] 4) 3)) ro wi le ke n V (upd o 1 b) := by
 subst hb
 exact h.new 1 _ (fun e => by cases e) (fun _ => Qg5 (α := Int) (by decide) W 0 #[.int .i64 0] rfl 4 _) (fun e => by cases e) (fun e => by cases e)
theorem KR.new2 (h : KR w W ro wi le ke n V o) (b : Nat) (hb : W.heap.size = b) : KR w (W.alloc (.cells (madeCells Qlg 16) 89)) ro wi le ke n V (upd o 2 b) := by
 subst hb
 exact h.new 2 _ (fun e => by cases e) (fun e => by cases e) (fun _ => Qg5 (α := An) (by decide) W zAn Qlg rfl 4 _) (fun e => by cases e)
theorem KR.new3 (h : KR w W ro wi le ke n V o) (b : Nat) (hb : W.heap.size = b) : KR w (W.alloc (.cells V 48)) ro wi le ke n V (upd o 3 b) := by
 subst hb
 exact h.new 3 _ (fun e => by cases e) (fun e => by cases e) (fun e => by cases e) (fun _ => Blk.new W _ _)
theorem KR.drew (h : KR w W ro wi le ke n V o) : KR w W.drew ro wi le ke n V o := ⟨h.bl.drew, h.b1, h.b2, h.at', h.ne, fun b e => (h.r b e).below (Below.drew (Below.refl _ _)), fun b e => (h.d b e).below (Below.drew (Below.refl _ _)), fun b e => (h.l b e).below (Below.drew (Below.refl _ _)), h.g⟩
end
structure KN (w W : World) (ro wi le ke : Int) (n g bR bD bL Q : Nat) (gv : Value) : Prop where
  bl : Below w.heap.size w W
  b1 : Blk W w.heap.size 24 (Qag ro wi le ke)
  b2 : Blk W (w.heap.size + 1) 48 Qa9
  bg : Blk W g 48 #[.slice (some ⟨bR, 0, none⟩) n n, .slice none 0 0, gv, .int .i64 0, .slice (some ⟨bD, 0, none⟩) 4 4, .slice (some ⟨bL, 0, none⟩) 4 4]
  g0 : w.heap.size + 2 <= g /\ g < Q
  r0 : w.heap.size + 2 <= bR /\ bR < Q
  d0 : w.heap.size + 2 <= bD /\ bD < Q
  l0 : w.heap.size + 2 <= bL /\ bL < Q
  nes : g ≠ bR /\ g ≠ bD /\ g ≠ bL /\ bR ≠ bD /\ bR ≠ bL /\ bD ≠ bL
  r : Md W bR (List.replicate n zRC)
  d : Md W bD (List.replicate 4 (0 : Int))
  l : Md W bL (List.replicate 4 zAn)
section
variable {w W W' : World} {ro wi le ke : Int} {n g bR bD bL Q : Nat} {gv : Value}
theorem KN.offp (h : KN w W ro wi le ke n g bR bD bL Q gv) {S : Nat -> Prop} (k : Offp S W W') (hS : ∀ x, S x -> Q <= x) : KN w W' ro wi le ke n g bR bD bL Q gv := by
 have h0 := h.g0; have h1 := h.r0; have h2 := h.d0; have h3 := h.l0
 have hb : ∀ x, x < Q -> ¬ S x := fun x hx e => by have := hS x e; omega
 exact ⟨h.bl.trans (k.toBelow (fun x hx => by have := hS x hx; omega) h.bl.size), h.b1.offp k (hb _ (by omega)), h.b2.offp k (hb _ (by omega)), h.bg.offp k (hb _ (by omega)), h0, h1, h2, h3, h.nes, h.r.offp k (hb _ (by omega)), h.d.offp k (hb _ (by omega)), h.l.offp k (hb _ (by omega))⟩
theorem KN.below (h : KN w W ro wi le ke n g bR bD bL Q gv) (k : Below W.heap.size W W') : KN w W' ro wi le ke n g bR bD bL Q gv := h.offp (Offp.of_below (S := fun _ => False) k) (fun x e => e.elim)
theorem KN.set (h : KN w W ro wi le ke n g bR bD bL Q gv) (v : Value) : KN w (W.setCell ⟨g, 2, none⟩ v) ro wi le ke n g bR bD bL Q v := by
 have h0 := h.g0; have h1 := h.r0; have h2 := h.d0; have h3 := h.l0
 obtain ⟨n1, n2, n3, n4, n5, n6⟩ := h.nes
 have k : Offp (fun x => x = g) W (W.setCell ⟨g, 2, none⟩ v) := Offp.of_only ((Only.refl g W).set 2 v)
 exact ⟨h.bl.trans (k.toBelow (fun x hx => by omega) h.bl.size), h.b1.offp k (by omega), h.b2.offp k (by omega), h.bg.setAt 2 v, h0, h1, h2, h3, ⟨n1, n2, n3, n4, n5, n6⟩, h.r.offp k (fun e => n1 e.symm), h.d.offp k (fun e => n2 e.symm), h.l.offp k (fun e => n3 e.symm)⟩
theorem KR.done {o : Nat -> Option Nat} (h : KR w W ro wi le ke n #[.slice (some ⟨bR, 0, none⟩) n n, .slice none 0 0, gv, .int .i64 0, .slice (some ⟨bD, 0, none⟩) 4 4, .slice (some ⟨bL, 0, none⟩) 4 4] o) (e0 : o 0 = some bR) (e1 : o 1 = some bD) (e2 : o 2 = some bL) (e3 : o 3 = some g) : KN w W ro wi le ke n g bR bD bL W.heap.size gv := by
 have nR : bR ≠ g := fun e => by subst e; have := h.ne 0 3 _ e0 e3; omega
 have nD : bD ≠ g := fun e => by subst e; have := h.ne 1 3 _ e1 e3; omega
 have nL : bL ≠ g := fun e => by subst e; have := h.ne 2 3 _ e2 e3; omega
 exact ⟨h.bl, h.b1, h.b2, h.g g e3, h.at' 3 g e3, h.at' 0 bR e0, h.at' 1 bD e1, h.at' 2 bL e2,
  ⟨nR.symm, nD.symm, nL.symm, fun e => by subst e; have := h.ne 0 1 _ e0 e1; omega, fun e => by subst e; have := h.ne 0 2 _ e0 e2; omega, fun e => by subst e; have := h.ne 1 2 _ e1 e2; omega⟩,
  h.r bR e0, h.d bD e1, h.l bL e2⟩
end
structure GL (W : World) (ro : Int) (Q : Nat) (gv : Value) (gs : List GC) (fp : Nat -> Nat -> Prop) : Prop where
  own : W.ownsRow Q 110 4 gv gs.length (flat gs)
  sub : ∀ (i : Nat) (h : i < gs.length), grpP W gs[i] (fp i)
  is : ∀ x ∈ gs, x.p = ⟨0, [], [], newO ro⟩
  lo : ∀ i x, fp i x -> i < gs.length /\ Q <= x /\ x < W.heap.size /\ gv.ownBlock ≠ some x
  dis : ∀ i j, i ≠ j -> ∀ x, fp i x -> ¬ fp j x
  q : Q <= W.heap.size
theorem GL.nil (W : World) (ro : Int) (Q : Nat) (hq : Q <= W.heap.size) : GL W ro Q (.slice none 0 0) [] (fun _ _ => False) :=
 ⟨World.ownsRow_nil _ _ _ _, fun i h => by simp at h, by simp, fun _ _ h => h.elim, fun _ _ _ _ h => h.elim, hq⟩
theorem GL.offp {W W' : World} {ro : Int} {Q : Nat} {gv : Value} {gs : List GC} {fp : Nat -> Nat -> Prop} {S : Nat -> Prop} (h : GL W ro Q gv gs fp) (k : Offp S W W') (hd : ∀ x, Q <= x -> ¬ S x) : GL W' ro Q gv gs fp :=
 ⟨Qdy h.own k (fun x hx => hd x (h.own.lt x hx).1), fun i hi => Qbd _ _ _ _ _ (h.sub i hi) k (fun x hx => hd x (h.lo i x hx).2.1), h.is, fun i x hx => by have := h.lo i x hx; have := k.size; exact ⟨by omega, by omega, by omega, (h.lo i x hx).2.2.2⟩, h.dis, Nat.le_trans h.q k.size⟩
theorem GL.below {W W' : World} {ro : Int} {Q : Nat} {gv : Value} {gs : List GC} {fp : Nat -> Nat -> Prop} (h : GL W ro Q gv gs fp) (k : Below W.heap.size W W') : GL W' ro Q gv gs fp := h.offp (Offp.of_below (S := fun _ => False) k) (fun _ _ e => e)
theorem GL.snoc {W0 W1 W2 : World} {ro : Int} {Q : Nat} {gv : Value} {gs : List GC} {fp : Nat -> Nat -> Prop} (h : GL W0 ro Q gv gs fp) (k : Below W0.heap.size W0 W1) {x : GC} {S : Nat -> Prop} (hx : grpP W1 x S) (hp : x.p = ⟨0, [], [], newO ro⟩) (hS : ∀ b, S b -> W0.heap.size <= b /\ b < W1.heap.size)
 {gv' : Value} (ho : W2.ownsRow Q 110 4 gv' (gs.length + 1) (flat (gs ++ [x]))) (hg : W1.grownBy W2 gv.ownBlock) (hat : gv'.ownBlock = gv.ownBlock ∨ gv'.ownBlock = some W1.heap.size) :
 GL W2 ro Q gv' (gs ++ [x]) (fun i => if i = gs.length then S else fp i) := by
 have kp := Qdk hg
 have hk := k.size
 have hlt : ∀ b, gv.ownBlock = some b -> b < W0.heap.size := fun b hb => (h.own.lt b hb).2
 refine ⟨by rw [List.length_append]; exact ho, ?_, ?_, ?_, ?_, by have := h.q; have := hg.size; omega⟩
 . intro i hi
   by_cases e : i = gs.length
   . subst e
     simp only [if_true]
     rw [List.getElem_append_right (Nat.le_refl _)]
     simp only [Nat.sub_self, List.getElem_cons_zero]
     exact Qbd _ _ _ _ _ hx kp (fun b hb e => by have := hlt b e; have := (hS b hb).1; omega)
   . have hi' : i < gs.length := by simp at hi; omega
     simp only [if_neg e]
     rw [List.getElem_append_left hi']
     exact Qbd _ _ _ _ _ (Qbd _ _ _ _ (fun _ => False) (h.sub i hi') (Offp.of_below k) (fun _ _ e => e)) kp (fun b hb e => (h.lo i b hb).2.2.2 e)
 . intro y hy
   rcases List.mem_append.1 hy with hy | hy
   . exact h.is y hy
   . simp only [List.mem_singleton] at hy; subst hy; exact hp
 . intro i b hb
   have hs := hg.size
   by_cases e : i = gs.length
   . simp only [if_pos e] at hb
     have h1 := hS b hb
     have h2 := h.q
     refine ⟨by simp; omega, by omega, by omega, fun e2 => ?_⟩
     rcases hat with h3 | h3
     . have := hlt b (h3 ▸ e2); omega
     . rw [h3] at e2; cases e2; omega
   . simp only [if_neg e] at hb
     have h1 := h.lo i b hb
     refine ⟨by simp; omega, by omega, by omega, fun e2 => ?_⟩
     rcases hat with h3 | h3
     . exact h1.2.2.2 (h3 ▸ e2)
     . rw [h3] at e2; cases e2; omega
 . intro i j hij b hb hb'
   by_cases e1 : i = gs.length
   . have e2 : j ≠ gs.length := by omega
     simp only [if_pos e1] at hb
     simp only [if_neg e2] at hb'
     have := (hS b hb).1; have := (h.lo j b hb').2.2.1; omega
   . by_cases e2 : j = gs.length
     . simp only [if_neg e1] at hb
       simp only [if_pos e2] at hb'
       have := (hS b hb').1; have := (h.lo i b hb).2.2.1; omega
     . simp only [if_neg e1] at hb
       simp only [if_neg e2] at hb'
       exact h.dis i j hij b hb hb'
def newK (ok : Bool) (ro : Int) : PK := if ok then ⟨List.replicate ro.toNat ⟨0, 0, []⟩, [], List.replicate 2 ⟨0, [], [], newO ro⟩, 0, List.replicate 4 0, List.replicate 4 zAn⟩ else ⟨[], [], [], 0, [], []⟩
def ToldK (w w' : World) (e : Ending) (c : PK) : Prop := ∃ y : KC, e = .returned (.agg y.cells) /\ y.p = c /\ KOwn w' y (fun b => w.heap.size <= b /\ b < w'.heap.size) /\ Below w.heap.size w w'
theorem Qim {w w' : World} {ro : Int} (g : Below w.heap.size w w') : ToldK w w' (.returned (.agg Qa9)) (newK false ro) :=
 ⟨⟨none, 0, [], none, 0, [], none, 0, [], 0, none, 0, [], none, 0, []⟩, rfl, rfl, ⟨fun _ => 0, .inl rfl, .inl rfl, .inl rfl, .inl rfl, .inl rfl⟩, g⟩
theorem Qj2 {w W W' : World} {ro wi le ke : Int} {n g bR bD bL Q : Nat} {a : Option Addr} {c : Nat} {gs : List GC} {fp : Nat -> Nat -> Prop} (hn : ro = n) (h : KN w W ro wi le ke n g bR bD bL Q (.slice a 2 c)) (hG : GL W ro Q (.slice a 2 c) gs fp) (hl : gs.length = 2) (k : Offp (fun x => x = w.heap.size + 1) W W') :
 ToldK w W' (.returned (.agg (Qah (some ⟨bR, 0, none⟩) n n none 0 0 a 2 c 0 (some ⟨bD, 0, none⟩) 4 4 (some ⟨bL, 0, none⟩) 4 4))) (newK true ro) := by
 have h0 := h.g0; have h1 := h.r0; have h2 := h.d0; have h3 := h.l0
 obtain ⟨n1, n2, n3, n4, n5, n6⟩ := h.nes
 have hB : Below w.heap.size w W' := h.bl.trans (k.toBelow (fun x hx => by omega) h.bl.size)
 have hG' := hG.offp k (fun x hx e => by omega)
 have hR := h.r.offp k (by omega)
 have hD := h.d.offp k (by omega)
 have hL := h.l.offp k (by omega)
 have hf : Fresh Q W' (.slice a 2 c) gs := Qlo hl.symm (by have := hG'.own; rw [hl] at this; exact this)
 obtain ⟨a', c', e, hc, hfr⟩ := hf
 rw [hl] at e
 cases e
 have hrl : (List.replicate n zRC).length = n := by simp
 refine ⟨⟨some ⟨bR, 0, none⟩, n, List.replicate n zRC, none, 0, [], a, c, gs, 0, some ⟨bD, 0, none⟩, 4, List.replicate 4 0, some ⟨bL, 0, none⟩, 4, List.replicate 4 zAn⟩, ?_, ?_, ?_, hB⟩
 . simp [KC.cells, hl]
 . simp only [KC.p, newK, if_true]
   subst hn
   congr 1
   . simp [zRC, RC.p]
   . refine List.eq_replicate_iff.2 ⟨by simpa using hl, fun y hy => ?_⟩
     obtain ⟨x, hx, rfl⟩ := List.mem_map.1 hy
     exact hG.is x hx
 . refine ⟨fun b => if b = bR then 1 else if b = bD then 4 else if b = bL then 5 else 3, ?_, .inl rfl, ?_, ?_, ?_⟩
   . refine .inr ⟨bR, 0, fun _ _ => False, rfl, ⟨⟨by omega, hR.lt⟩, by simp⟩, fun _ _ h => h.elim, ⟨hR.lt, hR.lst, hR.th, fun i hi => ?_, fun _ _ _ _ h => h.elim, fun _ h => h⟩⟩
     simp only [List.getElem_replicate]
     exact .inl rfl
   . rcases hfr with rfl | ⟨b, o, rfl, hQb, hbl, hin, hth⟩
     . simp at hl
     . refine .inr ⟨b, o, fp, rfl, ⟨⟨by omega, hbl⟩, by rw [if_neg (by omega), if_neg (by omega), if_neg (by omega)]⟩, fun i x hx => ?_, ⟨hbl, hin, hth, hG'.sub, hG'.dis, fun i hx => (hG'.lo i b hx).2.2.2 rfl⟩⟩
       have := hG'.lo i x hx
       exact ⟨⟨by omega, this.2.2.1⟩, by rw [if_neg (by omega), if_neg (by omega), if_neg (by omega)]⟩
   . exact .inr ⟨bD, 0, rfl, ⟨⟨by omega, hD.lt⟩, by simp only [if_neg (Ne.symm n4), if_true]⟩, hD.lt, hD.lst, hD.th⟩
   . exact .inr ⟨bL, 0, rfl, ⟨⟨by omega, hL.lt⟩, by simp only [if_neg (Ne.symm n5), if_neg (Ne.symm n6), if_true]⟩, hL.lt, hL.lst, hL.th⟩
theorem KR.store {w W : World} {ro wi le ke : Int} {n : Nat} {V : Array Value} {o : Nat -> Option Nat} (h : KR w W ro wi le ke n V o) {g : Nat} (hg : o 3 = some g) (V' : Array Value) : KR w (W.setRow g V') ro wi le ke n V' o := by
 have k : Offp (fun x => x = g) W (W.setRow g V') := (Offp.refl (fun x => x = g) W).row rfl V'
 have h0 := (h.at' 3 g hg).1
 refine ⟨Qcf h.bl (by omega) _, h.b1.offp k (by omega), h.b2.offp k (by omega), fun i b e => by have := h.at' i b e; rw [setRow_size]; exact this, h.ne, fun b e => (h.r b e).offp k (fun x => by have := h.ne 0 3 b e (x ▸ hg); omega), fun b e => (h.d b e).offp k (fun x => by have := h.ne 1 3 b e (x ▸ hg); omega), fun b e => (h.l b e).offp k (fun x => by have := h.ne 2 3 b e (x ▸ hg); omega), fun b e => ?_⟩
 have : b = g := by rw [hg] at e; cases e; rfl
 subst this
 exact (h.g b hg).row V'
def StK (w : World) (n : Nat) (wi le ke : Int) (A : (Nat -> Bool) -> (Nat -> Value) -> Array Value) (m : Nat -> Bool) (a : Act) (W : World) : Prop := ∃ (v : Nat -> Value) (o : Nat -> Option Nat), a = { tmps := A m v, defers := [] } /\ KR w W (n : Int) wi le ke n Qa9 o /\ (m 2 = true -> ∃ b, o 0 = some b /\ v 2 = .slice (some ⟨b, 0, none⟩) n n) /\ (m 3 = true -> ∃ b, o 1 = some b /\ v 3 = .slice (some ⟨b, 0, none⟩) 4 4) /\ (m 4 = true -> ∃ b, o 2 = some b /\ v 4 = .slice (some ⟨b, 0, none⟩) 4 4) /\ (m 5 = true -> v 5 = .agg #[v 2, .slice none 0 0, .slice none 0 0, .int .i64 0, v 3, v 4]) /\ (m 6 = true -> ∃ b, o 3 = some b /\ v 6 = .pointer (some ⟨b, 0, none⟩))
def lstK (m : Nat -> Bool) : Array Bool := #[true, true, m 2, m 3, m 4, m 5, m 6, false]
def preK (i : Nat) (m : Nat -> Bool) : Bool := if i = 5 then m 2 && m 3 && m 4 else if i = 6 then true else !m 5
theorem gp_new {w : World} {a : Option Addr} {c : Nat} {l : List Int} {F : List Nat} (h : Gp w none none a [] [] l F) : grpP w ⟨0, none, 0, [], none, 0, [], a, c, l⟩ (fun x => x ∈ F) := by
 obtain ⟨F1, F2, F3, rfl, s1, s2, s3, nd⟩ := h
 refine ⟨fun _ => False, fun _ => False, fun x => x ∈ F3, fun _ h => h.elim, fun _ h => h.elim, fun x hx => by simp [hx], fun _ h => h.elim, fun _ h => h.elim, fun _ h => h.elim, .inl rfl, .inl rfl, ?_⟩
 rcases s3 with ⟨h, _⟩ | ⟨b, o, rfl, rfl, hb, hi, ht⟩
 . exact .inl h
 . exact .inr ⟨b, o, rfl, by simp, hb, hi, ht⟩
theorem one_in (w : World) (x : GC) (t : TypeId) : In (w.alloc (.cells (Cel.cs x).toArray t)) w.heap.size 0 [x] := by
 intro j v hv
 rw [Qce] at hv
 rw [Nat.zero_add]
 exact (Blk.new w t _).cell (by simpa using hv)
end Go.Proofs.YtenhcjkkpnlbeaaGreatDoor.Gen
