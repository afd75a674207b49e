/-
  The specification's copies of what stays, of a message and of messages, in memory of their own. No condition but that their lists have at most 1048576 records.
-/
import Derived.Test.YtmdaammalacifaaGreatTlP
import Derived.Test.YtmdaammalacifaaGreatKCp3
set_option linter.unusedVariables false
set_option linter.unusedSimpArgs false
set_option maxRecDepth 100000
set_option maxHeartbeats 8000000
namespace Go.Proofs.YtmdaammalacifaaGreat.Gen
open ChangeShapes WideShapes ChangeAt RowKit Joins Deep Base
theorem Qg4 (te vo base bt : Int) (A : Option Addr) (cap : Nat) (l : List En) (hl : l.length <= 3000000) (x : KC) (hrl : x.rs.length <= 1048576) (hml : x.ms.length <= 1048576) (hgl : x.gs.length <= 1048576) (hdl : x.ds.length <= 1048576) (hll : x.ls.length <= 1048576) (hri : ∀ y ∈ x.rs, y.its.length <= 1048576) (hmi : ∀ y ∈ x.ms, y.ms.length <= 1048576) (hgi : ∀ y ∈ x.gs, y.m.length <= 1048576 /\ y.b.length <= 1048576 /\ y.o.length <= 1048576) (w : World) (hA : At w A l) (hx : KAt w x) :
 Calls Tryz.prog 62 #[.agg #[.int .i64 te, .int .i64 vo, .int .i64 base, .int .i64 bt, .slice A l.length cap, .slice x.rA x.rs.length x.rc, .slice x.mA x.ms.length x.mc, .slice x.gA x.gs.length x.gc, .int .i64 x.time, .slice x.dA x.ds.length x.dc, .slice x.lA x.ls.length x.lc]] w fun e w' => ∃ (a1 : Option Addr) (c1 : Nat) (x' : KC) (cc : Nat -> Bool), e = .returned (.agg #[.int .i64 te, .int .i64 vo, .int .i64 base, .int .i64 bt, .slice a1 l.length c1, .slice x'.rA x'.rs.length x'.rc, .slice x'.mA x'.ms.length x'.mc, .slice x'.gA x'.gs.length x'.gc, .int .i64 x'.time, .slice x'.dA x'.ds.length x'.dc, .slice x'.lA x'.ls.length x'.lc]) /\ Below w.heap.size w w' /\ x'.p = x.p /\ Sub w' a1 l (fun z => (w.heap.size <= z /\ z < w'.heap.size) /\ cc z = true) /\ KOwn w' x' (fun z => (w.heap.size <= z /\ z < w'.heap.size) /\ cc z = false) := by
 have HA := hidP hA
 have HK : Hid (∀ W : World, Below w.heap.size w W -> Calls Tryz.prog 63 #[.agg #[.slice x.rA x.rs.length x.rc, .slice x.mA x.ms.length x.mc, .slice x.gA x.gs.length x.gc, .int .i64 x.time, .slice x.dA x.ds.length x.dc, .slice x.lA x.ls.length x.lc]] W fun e w' => NewK W w' e x.p) := fun W g => Qd1 x.rA x.rc x.rs x.mA x.mc x.ms x.gA x.gc x.gs x.time x.dA x.dc x.ds x.lA x.lc x.ls hrl hml hgl hdl hll hri hmi hgi W (hx.below g)
 clear hA hx hri hmi hgi
 have I := Bx2.new w 55 #[.int .i64 0, .int .i64 0, .int .i64 0, .int .i64 0, .slice none 0 0, .slice none 0 0, .slice none 0 0, .slice none 0 0, .int .i64 0, .slice none 0 0, .slice none 0 0] #[.int .i64 te, .int .i64 vo, .int .i64 base, .int .i64 bt, .slice A l.length cap, .slice x.rA x.rs.length x.rc, .slice x.mA x.ms.length x.mc, .slice x.gA x.gs.length x.gc, .int .i64 x.time, .slice x.dA x.ds.length x.dc, .slice x.lA x.ls.length x.lc]
 go_enter Tryz.func62, Tryz.ntmps62
 go_wp2_with fail
 refine wp_region_noPanic ?_
 have hH : (fun (W : World) => W.cell? ⟨w.heap.size, 0, none⟩ = some (.int .i64 te) /\ W.cell? ⟨w.heap.size, 1, none⟩ = some (.int .i64 vo) /\ W.cell? ⟨w.heap.size, 2, none⟩ = some (.int .i64 base) /\ W.cell? ⟨w.heap.size, 3, none⟩ = some (.int .i64 bt) /\ W.cell? ⟨w.heap.size, 4, none⟩ = some (.slice A l.length cap) /\ W.cell? ⟨w.heap.size, 5, none⟩ = some (.slice x.rA x.rs.length x.rc) /\ W.cell? ⟨w.heap.size, 6, none⟩ = some (.slice x.mA x.ms.length x.mc) /\ W.cell? ⟨w.heap.size, 7, none⟩ = some (.slice x.gA x.gs.length x.gc) /\ W.cell? ⟨w.heap.size, 8, none⟩ = some (.int .i64 x.time) /\ W.cell? ⟨w.heap.size, 9, none⟩ = some (.slice x.dA x.ds.length x.dc) /\ W.cell? ⟨w.heap.size, 10, none⟩ = some (.slice x.lA x.ls.length x.lc)) _ := ⟨I.p1.cell (i := 0) rfl, I.p1.cell (i := 1) rfl, I.p1.cell (i := 2) rfl, I.p1.cell (i := 3) rfl, I.p1.cell (i := 4) rfl, I.p1.cell (i := 5) rfl, I.p1.cell (i := 6) rfl, I.p1.cell (i := 7) rfl, I.p1.cell (i := 8) rfl, I.p1.cell (i := 9) rfl, I.p1.cell (i := 10) rfl⟩
 refine Qbc 11 (fun (W : World) => W.cell? ⟨w.heap.size, 0, none⟩ = some (.int .i64 te) /\ W.cell? ⟨w.heap.size, 1, none⟩ = some (.int .i64 vo) /\ W.cell? ⟨w.heap.size, 2, none⟩ = some (.int .i64 base) /\ W.cell? ⟨w.heap.size, 3, none⟩ = some (.int .i64 bt) /\ W.cell? ⟨w.heap.size, 4, none⟩ = some (.slice A l.length cap) /\ W.cell? ⟨w.heap.size, 5, none⟩ = some (.slice x.rA x.rs.length x.rc) /\ W.cell? ⟨w.heap.size, 6, none⟩ = some (.slice x.mA x.ms.length x.mc) /\ W.cell? ⟨w.heap.size, 7, none⟩ = some (.slice x.gA x.gs.length x.gc) /\ W.cell? ⟨w.heap.size, 8, none⟩ = some (.int .i64 x.time) /\ W.cell? ⟨w.heap.size, 9, none⟩ = some (.slice x.dA x.ds.length x.dc) /\ W.cell? ⟨w.heap.size, 10, none⟩ = some (.slice x.lA x.ls.length x.lc)) (by kernel_rfl) ?_
 refine zpk [0,1,2,3,4,5,7,8] ?_; repeat (refine zpn (h := ?_); try simp only [zX,zY])
 refine zpe ?_
 refine Qai (i := 6) (by kernel_rfl) rfl (fun K hK => ?_)
 simp only [zG]
 go_simp
 refine (l8Copy_any base bt A cap l hl _ (HA.out.below I.bl)).mono ?_
 rintro e w1 ⟨v, rfl, n1, g1⟩
 obtain ⟨a1, c1, rfl, _⟩ := Qar n1
 have G1 := hidP ((Qbk n1).mono (T := fun z => w.heap.size + 2 <= z /\ z < w1.heap.size) (fun z hz => ⟨by have := hz.1; simp at this; omega, hz.2⟩))
 replace I := I.below g1
 have T1 : (fun (W : World) => W.cell? ⟨w.heap.size, 0, none⟩ = some (.int .i64 te) /\ W.cell? ⟨w.heap.size, 1, none⟩ = some (.int .i64 vo) /\ W.cell? ⟨w.heap.size, 2, none⟩ = some (.int .i64 base) /\ W.cell? ⟨w.heap.size, 3, none⟩ = some (.int .i64 bt) /\ W.cell? ⟨w.heap.size, 4, none⟩ = some (.slice A l.length cap) /\ W.cell? ⟨w.heap.size, 5, none⟩ = some (.slice x.rA x.rs.length x.rc) /\ W.cell? ⟨w.heap.size, 6, none⟩ = some (.slice x.mA x.ms.length x.mc) /\ W.cell? ⟨w.heap.size, 7, none⟩ = some (.slice x.gA x.gs.length x.gc) /\ W.cell? ⟨w.heap.size, 8, none⟩ = some (.int .i64 x.time) /\ W.cell? ⟨w.heap.size, 9, none⟩ = some (.slice x.dA x.ds.length x.dc) /\ W.cell? ⟨w.heap.size, 10, none⟩ = some (.slice x.lA x.ls.length x.lc)) w1 := ⟨I.p1.cell (i := 0) rfl, I.p1.cell (i := 1) rfl, I.p1.cell (i := 2) rfl, I.p1.cell (i := 3) rfl, I.p1.cell (i := 4) rfl, I.p1.cell (i := 5) rfl, I.p1.cell (i := 6) rfl, I.p1.cell (i := 7) rfl, I.p1.cell (i := 8) rfl, I.p1.cell (i := 9) rfl, I.p1.cell (i := 10) rfl⟩
 have z1 := I.p2.lt
 clear g1 n1
 refine hK.out _ _ (Or.inr T1) ?_
 clear hK K
 try simp only [zX,zY]
 refine Qai (i := 9) (by kernel_rfl) rfl (fun K hK => ?_)
 simp only [zG]
 go_simp
 refine (HK.out _ I.bl).mono ?_
 rintro e w2 ⟨x', he, hp, ho, g2⟩
 simp only [KC.cells] at he
 subst he
 replace G1 := hidP (G1.out.below g2)
 have G2 := hidP ho
 have X2 := hidP hp
 have z2 := g2.size
 replace I := I.below g2
 have T2 : (fun (W : World) => W.cell? ⟨w.heap.size, 0, none⟩ = some (.int .i64 te) /\ W.cell? ⟨w.heap.size, 1, none⟩ = some (.int .i64 vo) /\ W.cell? ⟨w.heap.size, 2, none⟩ = some (.int .i64 base) /\ W.cell? ⟨w.heap.size, 3, none⟩ = some (.int .i64 bt) /\ W.cell? ⟨w.heap.size, 4, none⟩ = some (.slice A l.length cap) /\ W.cell? ⟨w.heap.size, 5, none⟩ = some (.slice x.rA x.rs.length x.rc) /\ W.cell? ⟨w.heap.size, 6, none⟩ = some (.slice x.mA x.ms.length x.mc) /\ W.cell? ⟨w.heap.size, 7, none⟩ = some (.slice x.gA x.gs.length x.gc) /\ W.cell? ⟨w.heap.size, 8, none⟩ = some (.int .i64 x.time) /\ W.cell? ⟨w.heap.size, 9, none⟩ = some (.slice x.dA x.ds.length x.dc) /\ W.cell? ⟨w.heap.size, 10, none⟩ = some (.slice x.lA x.ls.length x.lc)) w2 := ⟨I.p1.cell (i := 0) rfl, I.p1.cell (i := 1) rfl, I.p1.cell (i := 2) rfl, I.p1.cell (i := 3) rfl, I.p1.cell (i := 4) rfl, I.p1.cell (i := 5) rfl, I.p1.cell (i := 6) rfl, I.p1.cell (i := 7) rfl, I.p1.cell (i := 8) rfl, I.p1.cell (i := 9) rfl, I.p1.cell (i := 10) rfl⟩
 clear g2 ho hp
 refine hK.out _ _ (Or.inr T2) ?_
 clear hK K
 try simp only [zX,zY]
 refine zp1 10 ?_; refine zpn (h := ?_); try simp only [zX,zY]
 refine zpe ?_
 refine Qai (i := 11) (by kernel_rfl) rfl (fun K hK => ?_)
 simp only [zG]
 rw [if_pos (by rfl)]
 refine wp_store_row 55 _ _ rfl (w.heap.size + 1) #[.int .i64 te, .int .i64 vo, .int .i64 base, .int .i64 bt, .slice a1 l.length c1, .slice x'.rA x'.rs.length x'.rc, .slice x'.mA x'.ms.length x'.mc, .slice x'.gA x'.gs.length x'.gc, .int .i64 x'.time, .slice x'.dA x'.ds.length x'.dc, .slice x'.lA x'.ls.length x'.lc] rfl rfl 55 #[.int .i64 0, .int .i64 0, .int .i64 0, .int .i64 0, .slice none 0 0, .slice none 0 0, .slice none 0 0, .slice none 0 0, .int .i64 0, .slice none 0 0, .slice none 0 0] I.p2 (by kernel_rfl) rfl (by simp [Value.oneCell']) ?_
 refine hK.out _ _ (Or.inl rfl) ?_
 clear hK K
 try simp only [zX,zY]
 refine Qbr (by kernel_rfl) ?_ _
 refine NoPanic.normal ?_
 have HB := hidP (I.p2.row #[.int .i64 te, .int .i64 vo, .int .i64 base, .int .i64 bt, .slice a1 l.length c1, .slice x'.rA x'.rs.length x'.rc, .slice x'.mA x'.ms.length x'.mc, .slice x'.gA x'.gs.length x'.gc, .int .i64 x'.time, .slice x'.dA x'.ds.length x'.dc, .slice x'.lA x'.ls.length x'.lc])
 have HI := hidP I
 clear I T1 T2 hH
 go_wp2
 refine bodyPost_ret (v := .agg #[.int .i64 te, .int .i64 vo, .int .i64 base, .int .i64 bt, .slice a1 l.length c1, .slice x'.rA x'.rs.length x'.rc, .slice x'.mA x'.ms.length x'.mc, .slice x'.gA x'.gs.length x'.gc, .int .i64 x'.time, .slice x'.dA x'.ds.length x'.dc, .slice x'.lA x'.ls.length x'.lc]) (Qbm (fn := Tryz.f62) (p := 2) (by rfl) rfl HB.out Tryz.underlying55 (by kernel_rfl)) rfl ?_
 have k := (Offp.refl (fun z => z = w.heap.size + 1) w2).row (b := w.heap.size + 1) rfl #[.int .i64 te, .int .i64 vo, .int .i64 base, .int .i64 bt, .slice a1 l.length c1, .slice x'.rA x'.rs.length x'.rc, .slice x'.mA x'.ms.length x'.mc, .slice x'.gA x'.gs.length x'.gc, .int .i64 x'.time, .slice x'.dA x'.ds.length x'.dc, .slice x'.lA x'.ls.length x'.lc]
 have hk := k.size
 refine ⟨a1, c1, x', fun z => decide (z < w1.heap.size), rfl, Qbx HI.out.bl (by omega) _, X2.out, ((G1.out.offp k (fun z hz e => by omega)).mono (T := fun z => (w.heap.size <= z /\ z < (w2.setRow (w.heap.size + 1) #[.int .i64 te, .int .i64 vo, .int .i64 base, .int .i64 bt, .slice a1 l.length c1, .slice x'.rA x'.rs.length x'.rc, .slice x'.mA x'.ms.length x'.mc, .slice x'.gA x'.gs.length x'.gc, .int .i64 x'.time, .slice x'.dA x'.ds.length x'.dc, .slice x'.lA x'.ls.length x'.lc]).heap.size) /\ decide (z < w1.heap.size) = true) (fun z hz => ⟨⟨by have := hz.1; omega, by have := hz.2; omega⟩, by simpa using hz.2⟩)), (G2.out.mono (T := fun z => (w.heap.size <= z /\ z < (w2.setRow (w.heap.size + 1) #[.int .i64 te, .int .i64 vo, .int .i64 base, .int .i64 bt, .slice a1 l.length c1, .slice x'.rA x'.rs.length x'.rc, .slice x'.mA x'.ms.length x'.mc, .slice x'.gA x'.gs.length x'.gc, .int .i64 x'.time, .slice x'.dA x'.ds.length x'.dc, .slice x'.lA x'.ls.length x'.lc]).heap.size) /\ decide (z < w1.heap.size) = false) (fun z hz => ⟨⟨by have := hz.1; omega, by have := hz.2; omega⟩, by have := hz.1; simp; omega⟩)).offp k (fun z hz e => ?_)⟩
 have h9 := hz.2
 simp at h9
 omega
theorem Qeo (r : RpC) (hr : r.l.length <= 1048576) (w : World) (hA : At w r.A r.l) :
 Calls Tryz.prog 23 #[.agg #[.int .i64 r.kind, .int .i64 r.frm, .int .i64 r.too, .int .i64 r.term, .int .i64 r.index, .int .i64 r.iterm, .int .i64 r.commit, .slice r.A r.l.length r.cap, .bool r.ok, .string r.snap]] w fun e w' => ∃ (a : Option Addr) (c : Nat), e = .returned (.agg #[.int .i64 r.kind, .int .i64 r.frm, .int .i64 r.too, .int .i64 r.term, .int .i64 r.index, .int .i64 r.iterm, .int .i64 r.commit, .slice a r.l.length c, .bool r.ok, .string r.snap]) /\ Below w.heap.size w w' /\ Sub w' a r.l (fun z => w.heap.size <= z /\ z < w'.heap.size) := by
 have I : Bx2 w ((w.alloc (.cells #[.int .i64 r.kind, .int .i64 r.frm, .int .i64 r.too, .int .i64 r.term, .int .i64 r.index, .int .i64 r.iterm, .int .i64 r.commit, .slice r.A r.l.length r.cap, .bool r.ok, .string r.snap] 64)).alloc (.cells #[.int .i64 0, .int .i64 0, .int .i64 0, .int .i64 0, .int .i64 0, .int .i64 0, .int .i64 0, .slice none 0 0, .bool false, .string ⟨#[]⟩] 64)) 64 #[.int .i64 0, .int .i64 0, .int .i64 0, .int .i64 0, .int .i64 0, .int .i64 0, .int .i64 0, .slice none 0 0, .bool false, .string ⟨#[]⟩] #[.int .i64 r.kind, .int .i64 r.frm, .int .i64 r.too, .int .i64 r.term, .int .i64 r.index, .int .i64 r.iterm, .int .i64 r.commit, .slice r.A r.l.length r.cap, .bool r.ok, .string r.snap] := ⟨Qab (Qab (Below.refl _ _) _) _, (Blk.new w _ _).alloc _, by have := Blk.new (w.alloc (.cells #[.int .i64 r.kind, .int .i64 r.frm, .int .i64 r.too, .int .i64 r.term, .int .i64 r.index, .int .i64 r.iterm, .int .i64 r.commit, .slice r.A r.l.length r.cap, .bool r.ok, .string r.snap] 64)) 64 #[.int .i64 0, .int .i64 0, .int .i64 0, .int .i64 0, .int .i64 0, .int .i64 0, .int .i64 0, .slice none 0 0, .bool false, .string ⟨#[]⟩]; rwa [World.size_alloc] at this⟩
 generalize hV : (w.alloc (.cells #[.int .i64 r.kind, .int .i64 r.frm, .int .i64 r.too, .int .i64 r.term, .int .i64 r.index, .int .i64 r.iterm, .int .i64 r.commit, .slice r.A r.l.length r.cap, .bool r.ok, .string r.snap] 64)).alloc (.cells #[.int .i64 0, .int .i64 0, .int .i64 0, .int .i64 0, .int .i64 0, .int .i64 0, .int .i64 0, .slice none 0 0, .bool false, .string ⟨#[]⟩] 64) = V at I
 have J := I.below (Qab (Below.refl _ _) (.cells #[] 130))
 obtain ⟨v, w1, hr1, own1, gr1, at1⟩ := Qa0 (P := Tryz.prog) Tryz.underlying45 infoEn rfl (by decide) (by decide) V.heap.size (.slice (some ⟨V.heap.size, 0, none⟩) 0 0) ([] : List En) r.l r.A r.cap (V.alloc (.cells #[] 130)) (by simp) (World.ownsRow_made V #[] 0 (Nat.le_refl _) (by simp [maxLen]) rfl) (hA.below J.bl) (by simp; omega)
 simp only [List.length_nil, Nat.zero_add, List.nil_append] at own1
 obtain ⟨a, c, rfl, _⟩ := Qar own1
 have hlt := I.p2.lt
 have ho : ∀ k, (Value.slice (some ⟨V.heap.size, 0, none⟩) 0 0).ownBlock = some k -> k = V.heap.size := fun k hk => by simpa [Value.ownBlock] using hk.symm
 have K1 : Bx2 w w1 64 #[.int .i64 0, .int .i64 0, .int .i64 0, .int .i64 0, .int .i64 0, .int .i64 0, .int .i64 0, .slice none 0 0, .bool false, .string ⟨#[]⟩] #[.int .i64 r.kind, .int .i64 r.frm, .int .i64 r.too, .int .i64 r.term, .int .i64 r.index, .int .i64 r.iterm, .int .i64 r.commit, .slice r.A r.l.length r.cap, .bool r.ok, .string r.snap] := ⟨J.bl.grown gr1 J.bl.size (fun k e => by have := ho k e; omega), J.p1.kept gr1 (fun e => by have := ho _ e.symm; omega), J.p2.kept gr1 (fun e => by have := ho _ e.symm; omega)⟩
 have u7 := J.p1.cell (i := 7) (v := .slice r.A r.l.length r.cap) rfl
 have x7 := K1.p1.cell (i := 7) (v := .slice r.A r.l.length r.cap) rfl
 have f7 := K1.p1.thaw 7
 have M := K1.set 7 (.slice a r.l.length c)
 simp only [List.setIfInBounds_toArray, List.set_cons_zero, List.set_cons_succ] at M
 have HM := hidP M
 have O1 := hidP own1
 have HL := hidP hlt
 clear M K1 J gr1 at1 own1 hA I ho
 subst hV
 go_enter Tryz.func23, Tryz.ntmps23
 go_upto_region 1 with fail
 generalize (w.alloc (.cells #[.int .i64 r.kind, .int .i64 r.frm, .int .i64 r.too, .int .i64 r.term, .int .i64 r.index, .int .i64 r.iterm, .int .i64 r.commit, .slice r.A r.l.length r.cap, .bool r.ok, .string r.snap] 64)).alloc (.cells #[.int .i64 0, .int .i64 0, .int .i64 0, .int .i64 0, .int .i64 0, .int .i64 0, .int .i64 0, .slice none 0 0, .bool false, .string ⟨#[]⟩] 64) = V at *
 go_upto_region 2 with (at_builtin; refine Qaj rfl _ _ _ rfl _ _ _ rfl rfl hr1 ?_)
 clear u7 x7 f7 hr1
 refine wp_region_lit ?_
 refine Qag rfl 64 _ rfl (b := w.heap.size) rfl HM.out.p1 Tryz.underlying64 (by kernel_rfl) ?_
 refine Qam rfl 64 _ _ rfl (g := w.heap.size + 1) (cells := #[.int .i64 r.kind, .int .i64 r.frm, .int .i64 r.too, .int .i64 r.term, .int .i64 r.index, .int .i64 r.iterm, .int .i64 r.commit, .slice a r.l.length c, .bool r.ok, .string r.snap]) rfl rfl HM.out.p2 (by kernel_rfl) rfl (by simp [Value.oneCell']) ?_
 have HB := hidP (HM.out.p2.row #[.int .i64 r.kind, .int .i64 r.frm, .int .i64 r.too, .int .i64 r.term, .int .i64 r.index, .int .i64 r.iterm, .int .i64 r.commit, .slice a r.l.length c, .bool r.ok, .string r.snap])
 go_wp2
 refine bodyPost_ret (v := .agg #[.int .i64 r.kind, .int .i64 r.frm, .int .i64 r.too, .int .i64 r.term, .int .i64 r.index, .int .i64 r.iterm, .int .i64 r.commit, .slice a r.l.length c, .bool r.ok, .string r.snap]) (Qbm (fn := Tryz.f23) (p := 2) (by rfl) rfl HB.out Tryz.underlying64 (by kernel_rfl)) rfl ?_
 have k := ((Offp.refl (fun z => z = w.heap.size ∨ z = w.heap.size + 1) w1).set (Or.inl rfl) 7 (.slice a r.l.length c)).row (b := w.heap.size + 1) (Or.inr rfl) #[.int .i64 r.kind, .int .i64 r.frm, .int .i64 r.too, .int .i64 r.term, .int .i64 r.index, .int .i64 r.iterm, .int .i64 r.commit, .slice a r.l.length c, .bool r.ok, .string r.snap]
 have hk := k.size
 have h2 := HL.out
 exact ⟨a, c, rfl, Qbx HM.out.bl (by omega) _, ((Qbk O1.out).offp k (fun z hz e => by have := hz.1; omega)).mono (fun z hz => ⟨by have := hz.1; omega, by have := hz.2; omega⟩)⟩
theorem GU.made {α : Type} [Cel α] {P : World -> α -> (Nat -> Prop) -> Prop} {t : TypeId} {B : Nat} (W : World) (hB : B <= W.heap.size) : GU (α := α) P t B B (W.alloc (.cells #[] t)) (some ⟨W.heap.size, 0, none⟩) 0 [] :=
 ⟨World.ownsRow_made W #[] 0 hB (by simp [maxLen]) (by simp), ⟨fun _ _ => False, fun i h => by simp at h, fun _ _ _ _ h => h.elim, fun _ _ h => h.elim⟩, Nat.le_refl _, by simp; omega⟩
theorem Qg2 (A : Option Addr) (cap : Nat) (l : List RpC) (hl : l.length <= 1048576) (hi : ∀ x ∈ l, x.l.length <= 1048576) (w : World) (hA : At w A l) (hE : EachP w l) :
 Calls Tryz.prog 65 #[.slice A l.length cap] w fun e w' => ∃ (a : Option Addr) (c : Nat) (hs' : List RpC), e = .returned (.slice a l.length c) /\ Below w.heap.size w w' /\ hs'.map RpC.p = l.map RpC.p /\ GU rpcP 64 w.heap.size w.heap.size w' a c hs' := by
 have HX := hidP hA
 have HE := hidP hE
 have Hi := hidP hi
 have G0 := hidP (GU.made (α := RpC) (P := rpcP) (t := 64) w (Nat.le_refl _))
 have B0 := hidP (Qab (Below.refl _ w) (.cells #[] 64))
 clear hA hE hi
 go_enter Tryz.func65, Tryz.ntmps65
 go_wp2
 go_loopw [3, 4] (fun v i W => ∃ (n cp : Nat) (a : Option Addr) (xs : List RpC), i = .int .i64 (n : Int) /\ v = .slice a n cp /\ n <= l.length /\ Hid (xs.length = n) /\ Hid (GU rpcP 64 w.heap.size w.heap.size W a cp xs) /\ Hid (Below w.heap.size w W) /\ Hid (xs.map RpC.p = (l.take n).map RpC.p)) (fun _ i _ => l.length - (intOf i).toNat)
 case atStart => exact ⟨0, 0, _, [], rfl, rfl, by omega, rfl, G0, B0, by show _ = _; simp⟩
 case round =>
  clear G0 B0
  obtain ⟨n, cp, a, xs, rfl, rfl, hn, hxn, K, HB, hM⟩ := hrel
  by_cases hlt : n < l.length
  . obtain ⟨bb, oo, rfl, hbs, hIn⟩ : ∃ b o, A = some ⟨b, o, none⟩ /\ b < w.heap.size /\ In w b o l := by
     rcases HX.out with h | h
     . subst h; simp at hlt
     . exact h
    have hym := Hi.out _ (List.getElem_mem hlt)
    have hAy := HE.out _ (List.getElem_mem hlt)
    have hTk : Hid ((l.take (n + 1)).map RpC.p = (l.take n).map RpC.p ++ [l[n].p]) := by show _ = _; rw [List.take_succ_eq_append_getElem hlt, List.map_append]; rfl
    have hce := (hIn.below hbs HB.out).getRpC n hlt
    generalize l[n] = r at hym hAy hTk hce
    have HR : Hid (Calls Tryz.prog 23 #[.agg #[.int .i64 r.kind, .int .i64 r.frm, .int .i64 r.too, .int .i64 r.term, .int .i64 r.index, .int .i64 r.iterm, .int .i64 r.commit, .slice r.A r.l.length r.cap, .bool r.ok, .string r.snap]] wr fun e w' => ∃ (a : Option Addr) (c : Nat), e = .returned (.agg #[.int .i64 r.kind, .int .i64 r.frm, .int .i64 r.too, .int .i64 r.term, .int .i64 r.index, .int .i64 r.iterm, .int .i64 r.commit, .slice a r.l.length c, .bool r.ok, .string r.snap]) /\ Below wr.heap.size wr w' /\ Sub w' a r.l (fun z => wr.heap.size <= z /\ z < w'.heap.size)) := hidP (Qeo r hym wr (hAy.below HB.out))
    have hxl : Hid (xs.length <= 2000000) := by show _ <= _; have := hxn.out; omega
    obtain ⟨d0, d1, d2, d3, d4, d5, d6, d7, d8, d9⟩ := hce
    have hi0 : (0 : Int) <= (n : Int) := by omega
    have hi1 : (n : Int) < (l.length : Int) := by omega
    clear hym hAy
    go_wp2_with fail
    clear d0 d1 d2 d3 d4 d5 d6 d7 d8 d9
    refine HR.out.mono ?_
    rintro e w1 ⟨b1, e1, rfl, g1, s1⟩
    obtain ⟨a2, c2, W2, hr1, g2, k2⟩ := K.out.app Qan (pg := Tryz.prog) (ts := 57) (z := .agg #[.int .i64 0, .int .i64 0, .int .i64 0, .int .i64 0, .int .i64 0, .int .i64 0, .int .i64 0, .slice none 0 0, .bool false, .string ⟨#[]⟩]) Tryz.underlying57 Qc2 rfl (by decide) (by decide) (Offp.of_below (S := fun _ => False) g1) (fun _ e => e.elim) (⟨r.kind, r.frm, r.too, r.term, r.index, r.iterm, r.commit, b1, e1, r.l, r.ok, r.snap⟩ : RpC) s1 (fun y hy => hy) #[.int .i64 r.kind, .int .i64 r.frm, .int .i64 r.too, .int .i64 r.term, .int .i64 r.index, .int .i64 r.iterm, .int .i64 r.commit, .slice b1 r.l.length e1, .bool r.ok, .string r.snap] rfl hxl.out
    rw [hxn.out] at hr1
    have hr1' := hidP hr1
    have g2' := hidP g2
    have HB2 := hidP ((via0 (Qab g1 (.cells #[.int .i64 r.kind, .int .i64 r.frm, .int .i64 r.too, .int .i64 r.term, .int .i64 r.index, .int .i64 r.iterm, .int .i64 r.commit, .slice b1 r.l.length e1, .bool r.ok, .string r.snap] 64)) HB.out).trans (k2.toBelow (fun x hx => hx) (Nat.le_trans (Nat.le_trans HB.out.size g1.size) (by simp))))
    have hM' : Hid ((xs ++ [(⟨r.kind, r.frm, r.too, r.term, r.index, r.iterm, r.commit, b1, e1, r.l, r.ok, r.snap⟩ : RpC)]).map RpC.p = (l.take (n + 1)).map RpC.p) := by show _ = _; rw [hTk.out, List.map_append, hM.out]; rfl
    have hxn' : Hid ((xs ++ [(⟨r.kind, r.frm, r.too, r.term, r.index, r.iterm, r.commit, b1, e1, r.l, r.ok, r.snap⟩ : RpC)]).length = n + 1) := by show _ = _; have := hxn.out; simp; omega
    clear hr1 g2 k2 g1 s1 K HB HR hM
    go_wp2_with (at_builtin; refine Qaj rfl _ _ _ rfl _ _ _ rfl rfl hr1'.out ?_)
    exact ⟨⟨n + 1, c2, a2, _, by go_num, rfl, by omega, hxn', g2', HB2, hM'⟩, by simp [intOf]; omega⟩
  . obtain rfl : n = l.length := by omega
    have hM1 : xs.map RpC.p = l.map RpC.p := by rw [hM.out, List.take_of_length_le (Nat.le_refl _)]
    have HM1 := hidP hM1
    clear hM1 hM
    go_wp2
    go_ret
    exact ⟨a, cp, xs, rfl, HB.out, HM1.out, K.out⟩
end Go.Proofs.YtmdaammalacifaaGreat.Gen
