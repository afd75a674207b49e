/-
  What a right keeper's numbers are, and how many bytes it has, as lists alone. No condition but the sizes (KFit).
-/
import Derived.Test.YtaefjifcnoiplaaGreatKBw4
import Derived.Test.YtaefjifcnoiplaaGreatKOk
namespace Go.Proofs.YtaefjifcnoiplaaGreat.Gen
open Go.ChangeShapes Go.WideShapes Go.ChangeAt Go.RowKit Go.Joins Go.Deep Base
open Items (It)
set_option linter.unusedVariables false
set_option linter.unusedSimpArgs false
theorem in_of {x lo hi : Int} (h : inB x lo hi = true) : lo <= x /\ x <= hi := by simpa [inB] using h
theorem inI_of {x lo hi : Int} (h : Items.inB x lo hi = true) : lo <= x /\ x <= hi := by simpa [Items.inB] using h
theorem txt_of {s : ByteArray} (h : Items.textB s = true) : s.size <= 30 := by
  simp only [Items.textB, Bool.and_eq_true, decide_eq_true_eq] at h
  exact h.2
theorem chain_all (s nb : Int) : ∀ (l : List It) (p : Option Int), Items.chain s nb p l = true -> ∀ z ∈ l, Items.itemB z = true /\ Items.inB z.off s nb = true
  | [], _, _, z, hz => by simp at hz
  | x :: l, p, h, z, hz => by
    simp only [Items.chain, Bool.and_eq_true] at h
    obtain ⟨⟨⟨h1, h2⟩, _⟩, h4⟩ := h
    rcases List.mem_cons.1 hz with rfl | hz
    . exact ⟨h1, h2⟩
    . exact chain_all s nb l _ h4 z hz
theorem row_r {y : RC} (h : rowF y = true) : RcR y := by
  simp only [rowF, Items.rowB, Items.chainFrom, Bool.and_eq_true, decide_eq_true_eq] at h
  obtain ⟨⟨⟨h1, h2⟩, h3⟩, h4⟩ := h
  have h2' := inI_of h2
  refine ⟨by omega, by omega, fun z hz => ?_, h4⟩
  obtain ⟨a, b⟩ := chain_all _ _ _ _ h1 z (by simpa using hz)
  have b' := inI_of b
  simp only [Items.itemB, Items.partB, Bool.and_eq_true] at a
  obtain ⟨⟨⟨a1, a2⟩, a3⟩, a4⟩ := a
  have a3' := inI_of a3
  have a4' := inI_of a4
  exact ⟨by omega, txt_of a1, txt_of a2, by omega, by omega⟩
theorem mak_r {ro wi : Int} {y : MC} (hw : wi <= 5) (h : makF ro wi y = true) : McR y := by
  simp only [makF, okB, Bool.and_eq_true, decide_eq_true_eq] at h
  obtain ⟨⟨⟨⟨⟨⟨⟨⟨h1, h2⟩, h3⟩, h4⟩, h5⟩, h6⟩, h7⟩, h8⟩, h9⟩ := h
  have h1' := in_of h1
  have h2' := in_of h2
  have h3' := in_of h3
  have h4' := in_of h4
  refine ⟨by omega, by omega, by omega, by omega, fun z hz => ?_, by omega⟩
  obtain ⟨j, hj, rfl⟩ := List.getElem_of_mem hz
  have hr : rightAt y.last y.ms j = true := (List.all_eq_true.1 h8) j (by simpa using hj)
  simp only [rightAt, Bool.and_eq_true, decide_eq_true_eq] at hr
  obtain ⟨⟨r1, r2⟩, _⟩ := hr
  have r1' := in_of r1
  have e : y.ms.getD j ⟨0, 0⟩ = y.ms[j] := by simp [hj]
  have eo : offAt y.ms j = y.ms[j].off := by unfold offAt; rw [e]
  rw [eo] at r1'
  rw [e] at r2
  have es : seqAt y.last y.ms j = y.last - ((y.ms.length : Int) - 1 - (j : Int)) := by
    unfold seqAt
    simp only [IntKind.wrap_i64]
    omega
  rw [es] at r2
  exact ⟨by omega, by omega⟩
theorem num_all {l : List Int} (h : numTo l l.length = true) : ∀ z ∈ l, 0 <= z /\ z <= 100000 := by
  unfold numTo at h
  rw [List.take_length] at h
  exact fun z hz => in_of (List.all_eq_true.1 h z hz)
theorem mem_all {m : List Int} (h : memTo m m.length = true) : (∀ z ∈ m, 0 <= z /\ z <= 3) /\ m.length <= 4 := by
  have hA : ∀ j, j < m.length -> memAt m j = true := fun j hj => (List.all_eq_true.1 h) j (by simpa using hj)
  have hB : ∀ j, j < m.length -> (0 <= m.getD j 0 /\ m.getD j 0 <= 3) /\ (j = 0 ∨ m.getD (j - 1) 0 < m.getD j 0) := fun j hj => by
    have := hA j hj
    simp only [memAt, Bool.and_eq_true, Bool.or_eq_true, decide_eq_true_eq] at this
    exact ⟨in_of this.1, this.2⟩
  have hC : ∀ j : Nat, j < m.length -> (j : Int) <= m.getD j 0 := by
    intro j
    induction j with
    | zero => intro hj; have := (hB 0 hj).1; omega
    | succ j ih =>
      intro hj
      have h1 := ih (by omega)
      have h2 := (hB (j + 1) hj).2
      simp only [Nat.add_sub_cancel] at h2
      omega
  constructor
  . intro z hz
    obtain ⟨j, hj, rfl⟩ := List.getElem_of_mem hz
    have := (hB j hj).1
    simpa [hj] using this
  . by_cases h4 : 4 < m.length
    . have h1 := hC 4 h4
      have h2 := (hB 4 h4).1
      omega
    . omega
theorem grp_r {ro : Int} {y : GC} (hr : ro <= 4) (h : grpF ro y = true) : GcR y /\ y.m.length <= 4 /\ y.o.length <= 4 := by
  simp only [grpF, gokB, Bool.and_eq_true, decide_eq_true_eq] at h
  obtain ⟨⟨⟨⟨⟨h1, h2⟩, h3⟩, h4⟩, h5⟩, h6⟩ := h
  have h1' := in_of h1
  obtain ⟨hm, hl⟩ := mem_all h2
  refine ⟨⟨by omega, fun z hz => by have := hm z hz; omega, fun z hz => by have := num_all h4 z hz; omega, fun z hz => by have := num_all h6 z hz; omega, by omega, by omega, by omega⟩, hl, by omega⟩
theorem ans_r {y : An} (h : ansF y = true) : AnR y := by
  simp only [ansF, ansB, Bool.and_eq_true] at h
  obtain ⟨⟨⟨h1, h2⟩, h3⟩, h4⟩ := h
  have h1' := inI_of h1
  have h2' := inI_of h2
  exact ⟨by omega, by omega, txt_of h3, txt_of h4⟩
theorem rcB_le {y : RC} (h : RcR y) : (rcB y).length <= 8100 := by
  have h1 := numsB_le [y.start, y.next]
  have h2 := flat_le itB 100 y.its (fun z hz => itB_le (h.its z hz))
  have h3 := numI_le (y.its.length : Int)
  have := h.len
  simp only [rcB, itsB, List.length_append, List.length_cons, List.length_nil] at h1 ⊢
  omega
theorem mcB_le {y : MC} (h : McR y) : (mcB y).length <= 80 := by
  have h1 := numsB_le [y.row, y.who, y.epoch, y.last + 1]
  have h2 := flat_le mkB 10 y.ms (fun z _ => mkB_le z)
  have h3 := numI_le (y.ms.length : Int)
  have := h.len
  simp only [mcB, mksB, List.length_append, List.length_cons, List.length_nil] at h1 ⊢
  omega
theorem gcB_le {y : GC} (h1 : y.m.length <= 4) (h2 : y.o.length <= 4) : (gcB y).length <= 80 := by
  have a1 := numsB_le [y.gen, (y.m.length : Int)]
  have a2 := numsB_le y.o
  have a3 := flat_le (fun p : Int × Int => numsB [p.1, p.2]) 10 (List.zip y.m y.b) (fun p _ => by have := numsB_le [p.1, p.2]; simpa using this)
  have a4 : (List.zip y.m y.b).length <= 4 := by rw [List.length_zip]; omega
  simp only [gcB, memB, List.length_append, List.length_cons, List.length_nil] at a1 ⊢
  omega
theorem anB_le {y : An} (h : AnR y) : (anB y).length <= 80 := by
  have a1 := numsB_le [y.code, y.n + 1]
  have a2 := txtB_le h.key
  have a3 := txtB_le h.text
  simp only [anB, List.length_append, List.length_cons, List.length_nil] at a1 ⊢
  omega
theorem kb_ranges {ro wi le ke : Int} {x : KC} (hf : KFit x) (h : keepB ro wi le ke x = true) : KcR x /\ (kB x).length <= 400000000 := by
  simp only [keepB, Bool.and_eq_true, decide_eq_true_eq, List.all_eq_true] at h
  obtain ⟨⟨⟨⟨⟨⟨⟨⟨⟨⟨⟨h1, h2⟩, h3⟩, h4⟩, h5⟩, h6⟩, h7⟩, h8⟩, h9⟩, h10⟩, h11⟩, h12⟩ := h
  simp only [setB, Bool.and_eq_true] at h1
  have hro := in_of h1.1.1.1
  have hwi := in_of h1.1.1.2
  have ht := in_of h8
  have hrow : ∀ y ∈ x.rs, RcR y := fun y hy => row_r (h3 y hy)
  have hmak : ∀ y ∈ x.ms, McR y := fun y hy => mak_r hwi.2 (h5 y hy)
  have hgrp : ∀ y ∈ x.gs, GcR y /\ y.m.length <= 4 /\ y.o.length <= 4 := fun y hy => grp_r hro.2 (h7 y hy)
  have hans : ∀ y ∈ x.ls, AnR y := fun y hy => ans_r (h12 y hy)
  have hml := hf.ml
  refine ⟨⟨hrow, hmak, fun y hy => (hgrp y hy).1, by omega, fun y hy => by have := num_all h10 y hy; omega, hans, by omega, hml, by omega, by omega, by omega⟩, ?_⟩
  have b1 := flat_le rcB 8100 x.rs (fun y hy => rcB_le (hrow y hy))
  have b2 := flat_le mcB 80 x.ms (fun y hy => mcB_le (hmak y hy))
  have b3 := flat_le gcB 80 x.gs (fun y hy => gcB_le (hgrp y hy).2.1 (hgrp y hy).2.2)
  have b4 := flat_le (fun p : Int × An => numI p.1 ++ anB p.2) 90 (List.zip x.ds x.ls) (fun p hp => by
    have := anB_le (hans p.2 (List.of_mem_zip hp).2)
    have := numI_le p.1
    rw [List.length_append]
    omega)
  have b5 : (List.zip x.ds x.ls).length <= 4 := by rw [List.length_zip]; omega
  have c1 := numI_le (x.rs.length : Int)
  have c2 := numI_le (x.ms.length : Int)
  have c3 := numI_le (x.gs.length : Int)
  have c4 := numI_le x.time
  have d1 : x.rs.length <= 4 := by omega
  have d3 : x.gs.length <= 2 := by omega
  simp only [kB, rcsB, mcsB, gcsB, lastB, List.length_append]
  omega
end Go.Proofs.YtaefjifcnoiplaaGreat.Gen
