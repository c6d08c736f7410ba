import Derived.Test.YtbbllkhmenpnlaaGreatCompS
import Derived.Test.YtbbllkhmenpnlaaGreatCompsI
/-
  l13Open of the model (made by tools/s13q.py).
-/
namespace Go.Proofs.YtbbllkhmenpnlaaGreat
open Go.RowKit
namespace GraphM
open RowK Mem ProgM
theorem open_ok {ns : Nm} {G : Arrows} {done : Nm} {x x0 : ByteArray} (h0 : x0 ∈ compL ns G x) (hd : x ∉ done) :
  decide (((NameM.wo (NameM.wo (rchL ns G x0) (compL ns G x)) done).length : Int) = 0) = okC ns G done x := by
 rw [Bool.eq_iff_iff, okC_iff, decide_eq_true_iff, rchL_comp h0]
 have h1 : ((NameM.wo (NameM.wo (rchL ns G x) (compL ns G x)) done).length : Int) = 0 ↔ (NameM.wo (NameM.wo (rchL ns G x) (compL ns G x)) done).length = 0 := by omega
 rw [h1, wo_nil]
 constructor
 ·intro h
  refine ⟨hd, fun y hy => ?_⟩
  by_cases hc : y ∈ compL ns G x
  ·exact Or.inl hc
  ·refine Or.inr (h y ?_)
   unfold NameM.wo
   refine List.mem_filter.2 ⟨hy, ?_⟩
   rw [Bool.not_eq_true']
   cases hq : NameM.hasB (compL ns G x) y with
   | false => rfl
   | true => exact absurd (NameM.hasB_iff.1 hq) hc
 ·rintro ⟨_, h⟩ y hy
  unfold NameM.wo at hy
  obtain ⟨h2, h3⟩ := List.mem_filter.1 hy
  rcases h y h2 with h4 | h4
  ·rw [NameM.hasB_iff.2 h4] at h3; cases h3
  ·exact h4
end GraphM
namespace GraphS
open RowK Mem GraphM ProgM
set_option maxHeartbeats 4000000 in
set_option maxRecDepth 100000 in
theorem l13Open (A B L D : Option Addr) (c d lc dc : Nat) (fs : List FunctionT) (rs : List RuleT) (x0 : ByteArray) (ss done : List ByteArray) (w : World) (hA : ArgS Mem.fn w A fs.length c fs) (hB : ArgS rule w B rs.length d rs) (hl : szProgramU (fs, rs) ≤ 9000000)
  (hL : ArgS Rep.str w L ss.length lc ss) (hD : StrK.SRow w D done) (h0 : ss[0]? = some x0) (hls : ss.length ≤ 9000000) (hld : done.length ≤ 9000000) :
  Calls Tryz.prog 51 #[.agg #[.slice A fs.length c, .slice B rs.length d], .slice L ss.length lc, .slice D done.length dc] w fun e w' => e = .returned (.bool (decide (((NameM.wo (NameM.wo (@ite _ (progV fs rs = true) _ (rchL (names fs) (arrows rs) x0) []) ss) done).length : Int) = 0))) ∧ Below w.heap.size w w' := by
 have b0 : Below w.heap.size w (w.alloc (Obj.cells #[Value.slice A fs.length c, Value.slice B rs.length d] 27)) := (Below.refl _ _).alloc (Nat.le_refl _) _
 have V0 := Lvar.new w #[Value.slice A fs.length c, Value.slice B rs.length d] 27
 have hfs : fs.length ≤ 9000000 := by simp only [szProgramU] at hl; omega
 have hss : 0 < ss.length := (List.getElem?_eq_some_iff.1 h0).1
 obtain ⟨ql, fpl, hl9⟩ := hL.below b0
 have HSL := Lib.hid (strs_open hl9).1
 obtain ⟨bl, ol, rfl, hbl, hcl⟩ := (strs_open hl9).1.at_ hss
 have hx0 : ss[0] = x0 := Option.some.inj ((List.getElem?_eq_getElem hss).symm.trans h0)
 rw [hx0, Nat.add_zero] at hcl
 have HSD := Lib.hid (hD.below b0)
 have KS := Lib.hid (fun (W : World) (h : Below (w.alloc (Obj.cells #[Value.slice A fs.length c, Value.slice B rs.length d] 27)).heap.size (w.alloc (Obj.cells #[Value.slice A fs.length c, Value.slice B rs.length d] 27)) W) => (⟨(V0.below h).cell 0 _ rfl, (V0.below h).cell 1 _ rfl, (h.cell (p := ⟨bl, ol, none⟩) hbl).trans hcl⟩ : W.cell? ⟨w.heap.size, 0, none⟩ = some (Value.slice A fs.length c) ∧ W.cell? ⟨w.heap.size, 1, none⟩ = some (Value.slice B rs.length d) ∧ W.cell? ⟨bl, ol, none⟩ = some (Value.string x0)))
 have RE := Lib.hid (fun (W : World) (h : Below (w.alloc (Obj.cells #[Value.slice A fs.length c, Value.slice B rs.length d] 27)).heap.size (w.alloc (Obj.cells #[Value.slice A fs.length c, Value.slice B rs.length d] 27)) W) => reachableFrom A B c d fs rs x0 W (hA.below (below_step b0 h)) (hB.below (below_step b0 h)) hl)
 have hrc := Nat.le_trans (reach_len (progV fs rs) fs (arrows rs) x0) hfs
 have D0 := Lib.hid (Below.refl (w.alloc (Obj.cells #[Value.slice A fs.length c, Value.slice B rs.length d] 27)).heap.size (w.alloc (Obj.cells #[Value.slice A fs.length c, Value.slice B rs.length d] 27))).drew
 have D0r := Lib.hid (Below.refl (w.alloc (Obj.cells #[Value.slice A fs.length c, Value.slice B rs.length d] 27)).heap.size (w.alloc (Obj.cells #[Value.slice A fs.length c, Value.slice B rs.length d] 27)))
 have B0 := Lib.hid b0
 have hi1 : (0 : Int) < (ss.length : Int) := by omega
 obtain ⟨Z, hZ⟩ : ∃ Z, Z = decide (((NameM.wo (NameM.wo (@ite _ (progV fs rs = true) _ (rchL (names fs) (arrows rs) x0) []) ss) done).length : Int) = 0) := ⟨_, rfl⟩
 rw [← hZ]
 have HZ := Lib.hid hZ
 generalize (@ite _ (progV fs rs = true) _ (rchL (names fs) (arrows rs) x0) []) = T at *
 clear hA hB hl hL hD b0 V0 h0 hx0 hl9 hcl hZ
 go_enter Tryz.func51, Tryz.ntmps51
 go_wp2_with fail
 refine wp_region_held_drew (S := (fun W => W.cell? ⟨w.heap.size, 0, none⟩ = some (Value.slice A fs.length c) ∧ W.cell? ⟨w.heap.size, 1, none⟩ = some (Value.slice B rs.length d) ∧ W.cell? ⟨bl, ol, none⟩ = some (Value.string x0))) (by kernel_rfl) ?_ (fun hHeld => ?_)
 ·(try dsimp only); first | exact KS.out _ D0.out | exact KS.out _ D0r.out
 refine wpAnyH_take (i := 0) (oi := { dst := some 8, op := Op.load 27 (Operand.tmp 3), type := 27, pos := "l13_graph.go:67", after := #[], guard := none }) (v := ?v11_0) rfl (by kernel_rfl) (by kernel_rfl) (by kernel_rfl) (fun _ _ _ h => h) (Or.inl ⟨by rfl, ?hy11_0⟩) (by assumption) ?r11_0
 case hy11_0 => (intro w hSw; (try dsimp only at hSw); go_simp; try (with_reducible rfl))
 (try simp only [Act.put, zA, zB, zC])
 refine wpAnyH_take (i := 1) (oi := { dst := some 9, op := Op.move (Operand.tmp 1), type := 31, pos := "l13_graph.go:67", after := #[], guard := none }) (v := ?v11_1) rfl (by kernel_rfl) (by kernel_rfl) (by kernel_rfl) (fun _ _ _ h => h) (Or.inl ⟨by rfl, ?hy11_1⟩) (by assumption) ?r11_1
 case hy11_1 => (intro w hSw; (try dsimp only at hSw); go_simp; try (with_reducible rfl))
 (try simp only [Act.put, zA, zB, zC])
 refine wpAnyH_take (i := 2) (oi := { dst := some 10, op := Op.indexAddr 31 (Operand.tmp 9) (Operand.const (Value.int IntKind.i64 0)), type := 0, pos := "l13_graph.go:67", after := #[{ on := 1, ground := Ground.data }], guard := none }) (v := ?v11_2) rfl (by kernel_rfl) (by kernel_rfl) (by kernel_rfl) (fun _ _ _ h => h) (Or.inl ⟨by rfl, ?hy11_2⟩) (by assumption) ?r11_2
 case hy11_2 => (intro w hSw; (try dsimp only at hSw); go_simp; try (with_reducible rfl))
 (try simp only [Act.put, zA, zB, zC])
 refine wpAnyH_take (i := 3) (oi := { dst := some 11, op := Op.load 9 (Operand.tmp 10), type := 9, pos := "l13_graph.go:67", after := #[{ on := 2, ground := Ground.data }], guard := none }) (v := ?v11_3) rfl (by kernel_rfl) (by kernel_rfl) (by kernel_rfl) (fun _ _ _ h => h) (Or.inl ⟨by rfl, ?hy11_3⟩) (by assumption) ?r11_3
 case hy11_3 => (intro w hSw; (try dsimp only at hSw); go_simp; try (with_reducible rfl))
 (try simp only [Act.put, zA, zB, zC])
 refine wpAnyH_ready (rs := [4]) (by kernel_rfl) (by simp) ?_
 refine AllReadyH.cons (o := { dst := some 12, op := Op.call { callee := Callee.value (Operand.func 34), args := #[Operand.tmp 8, Operand.tmp 11], argTypes := #[27, 9] }, type := 31, pos := "l13_graph.go:67", after := #[{ on := 0, ground := Ground.data }, { on := 3, ground := Ground.data }], guard := none }) rfl (fun K hK => ?_) AllReadyH.nil
 go_simp
 go_at_call 34; (with_reducible refine (Calls.mono (RE.out _ D0.out)) ?_); rintro e w1 ⟨R9, cr, rfl, oR, b1⟩; (have D1 := Lib.hid (below_step D0.out b1)); (have OR := Lib.hid oR.arg); clear b1 oR
 refine hK.out _ _ ?_ (fun hHeld2 => ?_)
 ·(try dsimp only); exact KS.out _ D1.out
 clear hK K
 (try simp only [Act.put, zA, zB, zC])
 refine wpAnyH_take (i := 5) (oi := { dst := some 7, op := Op.assign (Operand.tmp 12), type := 31, pos := "l13_graph.go:67", after := #[{ on := 4, ground := Ground.data }, { on := 4, ground := Ground.chain }, { on := 0, ground := Ground.phase }, { on := 1, ground := Ground.phase }, { on := 2, ground := Ground.phase }, { on := 3, ground := Ground.phase }, { on := 4, ground := Ground.phase }], guard := none }) (v := ?v11_5) rfl (by kernel_rfl) (by kernel_rfl) (by kernel_rfl) (fun _ _ _ h => h) (Or.inl ⟨by rfl, ?hy11_5⟩) (by assumption) ?r11_5
 case hy11_5 => (intro w hSw; (try dsimp only at hSw); go_simp; try (with_reducible rfl))
 (try simp only [Act.put, zA, zB, zC])
 refine wpAnyH_done (by kernel_rfl) ?_ _
 have WO := Lib.hid (fun W (h : Below w1.heap.size w1 W) => NameS.specWithout R9 (some ⟨bl, ol, none⟩) cr lc T ss W (by
  obtain ⟨q, fp, h9⟩ := OR.out.below h
  exact (strs_open h9).1) (HSL.out.below (below_step D1.out h)) (by omega) (by omega))
 go_wp2_with fail
 refine (Calls.mono (WO.out _ (Below.refl _ _))) ?_
 rintro e w2 ⟨R2, c2, rfl, hr2, _, b2, _, _⟩
 have D2 := Lib.hid (below_step D1.out b2)
 have hw9 := NameM.wo_length T ss
 have WP2 := Lib.hid (NameS.specWithout R2 D c2 dc (NameM.wo T ss) done w2 hr2 (HSD.out.below D2.out) (by omega) (by omega))
 clear b2 hr2
 generalize NameM.wo T ss = U at *
 go_wp2_with fail
 refine (Calls.mono WP2.out) ?_
 rintro e w3 ⟨R3, c3, rfl, _, _, b3, _, _⟩
 have D3 := Lib.hid (below_step D2.out b3)
 clear b3
 go_wp2
 go_ret
 exact ⟨by rw [HZ.out]; rfl, below_step B0.out D3.out⟩
end GraphS
end Go.Proofs.YtbbllkhmenpnlaaGreat

/-
  ComponentsOf of the model (made by tools/s13v.py).
-/
namespace Go.Proofs.YtbbllkhmenpnlaaGreat
open Go.RowKit
namespace GraphM
open RowK Mem ProgM
def DoneC (ns : Nm) (G : Arrows) (done : Nm) : Prop := done.Nodup ∧ ∀ y ∈ done, y ∈ ns ∧ ∀ z ∈ compL ns G y, z ∈ done
theorem DoneC.nil (ns : Nm) (G : Arrows) : DoneC ns G [] := ⟨List.nodup_nil, fun y hy => by cases hy⟩
theorem compL_swap {ns : Nm} {G : Arrows} {x y : ByteArray} (h : y ∈ compL ns G x) : x ∈ compL ns G y := by
 obtain ⟨h1, h2, h3, h4⟩ := mem_compL.1 h
 exact mem_compL.2 ⟨h2, h1, h4, h3⟩
theorem compL_tail {ns : Nm} {G : Arrows} {x y z : ByteArray} (h : y ∈ compL ns G x) (hz : z ∈ compL ns G y) : z ∈ compL ns G x := by
 obtain ⟨h1, h2, h3, h4⟩ := mem_compL.1 h
 obtain ⟨g1, g2, g3, g4⟩ := mem_compL.1 hz
 exact mem_compL.2 ⟨h1, g2, h3.trans g3, g4.trans h4⟩
theorem DoneC.add {ns : Nm} {G : Arrows} {done : Nm} {x : ByteArray} (h : DoneC ns G done) (hns : ns.Nodup) (hxd : x ∉ done) : DoneC ns G (done ++ compL ns G x) := by
 obtain ⟨h1, h2⟩ := h
 refine ⟨List.nodup_append.2 ⟨h1, compL_sub.nodup hns, fun y hy z hz e => ?_⟩, fun y hy => ?_⟩
 ·subst e
  exact hxd ((h2 y hy).2 x (compL_swap hz))
 ·rcases List.mem_append.1 hy with hy | hy
  ·exact ⟨(h2 y hy).1, fun z hz => List.mem_append_left _ ((h2 y hy).2 z hz)⟩
  ·exact ⟨(mem_compL.1 hy).2.1, fun z hz => List.mem_append_right _ (compL_tail hy hz)⟩
theorem DoneC.len {ns : Nm} {G : Arrows} {done : Nm} (h : DoneC ns G done) : done.length ≤ ns.length := nodup_len h.1 (fun y hy => (h.2 y hy).1)
theorem DoneC.all {ns : Nm} {G : Arrows} {done : Nm} (h : DoneC ns G done) (hl : ¬ done.length < ns.length) : ∀ a ∈ ns, a ∈ done := fun a ha => Classical.byContradiction fun hd => by
 have h1 := nodup_len (xs := a :: done) (ys := ns) (List.nodup_cons.2 ⟨hd, h.1⟩) (fun y hy => by
  rcases List.mem_cons.1 hy with rfl | hy
  ·exact ha
  ·exact (h.2 y hy).1)
 rw [List.length_cons] at h1
 omega
theorem DoneC.some {ns : Nm} {G : Arrows} {done : Nm} (hns : ns.Nodup) (hl : done.length < ns.length) : ∃ x ∈ ns, okC ns G done x = true := by
 have h1 : ∃ a ∈ ns, a ∉ done := Classical.byContradiction fun h => by
  have h2 := nodup_len (xs := ns) (ys := done) hns (fun y hy => Classical.byContradiction fun h3 => h ⟨y, hy, h3⟩)
  omega
 obtain ⟨b, hb, hk, _⟩ := nextC_some (G := G) h1
 exact ⟨b, hb, hk⟩
theorem compsL_len {ns : Nm} {G : Arrows} : ∀ (n : Nat) (done : Nm), (compsL ns G n done).length ≤ n
 | 0, _ => Nat.le_refl _
 | n + 1, done => by
  unfold compsL
  split
  ·exact Nat.zero_le _
  ·exact Nat.succ_le_succ (compsL_len n _)
theorem compsL_mem {ns : Nm} {G : Arrows} : ∀ (n : Nat) (done : Nm), ∀ ss ∈ compsL ns G n done, List.Sublist ss ns
 | 0, _, ss, h => by cases h
 | n + 1, done, ss, h => by
  unfold compsL at h
  split at h
  ·cases h
  ·rename_i c hc
   rcases List.mem_cons.1 h with rfl | h
   ·unfold nextC at hc
    obtain ⟨x, _, rfl⟩ := Option.map_eq_some_iff.1 hc
    exact compL_sub
   ·exact compsL_mem n _ ss h
theorem szs_all {α : Type} {f : α → Nat} {M : Nat} : ∀ xs : List α, (∀ x ∈ xs, f x ≤ M) → szs f xs ≤ xs.length * M
 | [], _ => Nat.zero_le _
 | x :: xs, h => by
  have h1 := h x List.mem_cons_self
  have h2 := szs_all xs (fun y hy => h y (List.mem_cons_of_mem _ hy))
  have h3 : szs f (x :: xs) = f x + szs f xs := by simp [szs]
  rw [h3, List.length_cons, Nat.succ_mul]
  omega
theorem comps_small {fs : List FunctionT} {rs : List RuleT} (h : fs.length + szs szFunctionU fs ≤ 9000000) : (@ite _ (progV fs rs = true) _ (compsA (names fs) (arrows rs)) []).length + szs szRowString (@ite _ (progV fs rs = true) _ (compsA (names fs) (arrows rs)) []) ≤ 100000000 := by
 by_cases hv : progV fs rs = true
 ·rw [if_pos hv]
  have h3 := valid_len hv
  have h1 := compsL_len (ns := names fs) (G := arrows rs) (names fs).length []
  have hn : (names fs).length = fs.length := by unfold names; rw [List.length_map]
  have h2 := szs_all (f := szRowString) (M := 9000001) (compsL (names fs) (arrows rs) (names fs).length []) (fun ss hss => by
   have h5 := sub_small (compsL_mem _ _ ss hss) h
   unfold szRowString
   omega)
  unfold compsA
  have h6 : (compsL (names fs) (arrows rs) (names fs).length []).length * 9000001 ≤ 3 * 9000001 := Nat.mul_le_mul_right _ (by omega)
  omega
 ·rw [if_neg hv]
  simp [szs]
end GraphM
namespace GraphS
open RowK Mem GraphM ProgM
def lenV : Value → Nat
 | .slice _ n _ => n
 | _ => 0
theorem own_lenV {w : World} {base sz n : Nat} {e : TypeId} {v : Value} {vs : List Value} (h : w.ownsRow base e sz v n vs) : lenV v = n := by
 obtain ⟨A, c, rfl, _⟩ := RowK.of_own h
 rfl
theorem row_strs {w : World} {A : Option Addr} {ss : List ByteArray} (h : StrK.SRow w A ss) : Row 0 w.heap.size w A (ss.map Value.string) := fun hn => by
 obtain ⟨b, o, rfl, hlt, hc⟩ := h (fun e => hn (by rw [e]; rfl))
 refine ⟨b, o, rfl, ⟨Nat.zero_le _, hlt, Nat.le_refl _⟩, fun j v hj => ?_⟩
 rw [List.getElem?_map] at hj
 cases h9 : ss[j]? with
 | none => rw [h9] at hj; cases hj
 | some s => rw [h9] at hj; injection hj with hj; rw [← hj]; exact hc j s h9
def OkO (w w1 : World) (vd : Value) (g : Nat) : Prop := (g = w.heap.size + 1 ∨ w1.heap.size ≤ g) ∧ vd.ownBlock ≠ some g
def CompsO (w w1 : World) (PV : Array Value) (X : Option Addr) (cx : Nat) (ns : Nm) (G : Arrows) (Z : List Nm) (vo vd : Value) (wr : World) : Prop :=
 ∃ (done : Nm) (out : List Nm), Hid (DoneC ns G done) ∧ Hid (Z = out ++ compsL ns G ns.length done) ∧ out.length ≤ done.length ∧ wr.ownsRow w1.heap.size 9 1 vd done.length (done.map Value.string) ∧ Owned rowString 31 (OkO w w1 vd) wr vo out ∧ Lvar wr w.heap.size PV ∧
  OwnS Rep.str (w.heap.size + 1 + 1) w1.heap.size wr X ns.length cx ns ∧ Below w.heap.size w wr ∧ w1.heap.size ≤ wr.heap.size
theorem comps_step {w w1 wo w3 : World} {PV : Array Value} {X N : Option Addr} {cx cn m hi : Nat} {ns : Nm} {G : Arrows} {Z out : List Nm} {done : Nm} {x : ByteArray} {vo vd : Value} (hw1 : w.heap.size + 1 + 1 ≤ w1.heap.size) (hns : ns.Nodup) (hD : DoneC ns G done) (hZ : Z = out ++ compsL ns G ns.length done) (hol : out.length ≤ done.length)
  (hd : wo.ownsRow w1.heap.size 9 1 vd done.length (done.map Value.string)) (hO : Owned rowString 31 (OkO w w1 vd) wo vo out) (hV : Lvar wo w.heap.size PV) (hX : OwnS Rep.str (w.heap.size + 1 + 1) w1.heap.size wo X ns.length cx ns) (hB : Below w.heap.size w wo) (hs : w1.heap.size ≤ wo.heap.size)
  (hb : Below wo.heap.size wo w3) (hN : OwnS Rep.str m hi w3 N (compL ns G x).length cn (compL ns G x)) (hm : wo.heap.size ≤ m) (hx : x ∈ ns) (hxd : x ∉ done) (hnx : nextC ns G done = some (compL ns G x)) :
  ∃ cs, (w3.alloc (Obj.cells #[Value.slice N (compL ns G x).length cn] 31)).ownsRow 0 31 1 vo out.length cs ∧
   ∀ v5 w5, World.ownsRow w5 0 31 1 v5 (out.length + 1) (cs ++ [.slice N (compL ns G x).length cn]) → (w3.alloc (Obj.cells #[Value.slice N (compL ns G x).length cn] 31)).grownBy w5 vo.ownBlock →
    (v5.ownBlock = vo.ownBlock ∨ ∀ g, v5.ownBlock = some g → (w3.alloc (Obj.cells #[Value.slice N (compL ns G x).length cn] 31)).heap.size ≤ g) →
    w5.ownsRow w1.heap.size 9 1 vd done.length (done.map Value.string) ∧ Row 0 w5.heap.size w5 N ((compL ns G x).map Value.string) ∧ w1.heap.size ≤ w5.heap.size ∧
    ∀ v6 w6, World.ownsRow w6 w1.heap.size 9 1 v6 (done.length + (compL ns G x).length) (done.map Value.string ++ (compL ns G x).map Value.string) → w5.grownBy w6 vd.ownBlock → (v6.ownBlock = vd.ownBlock ∨ ∀ g, v6.ownBlock = some g → w5.heap.size ≤ g) →
     CompsO w w1 PV X cx ns G Z v5 v6 w6 ∧ done.length < lenV v6 := by
 have hst := compsL_step (n := ns.length) (leftN_le ns done) hx hxd hnx
 have hself := List.length_pos_of_mem (compL_self (G := G) hx)
 have hadd := hD.add hns hxd
 generalize compL ns G x = CP at *
 have b4 : Below wo.heap.size wo (w3.alloc (Obj.cells #[Value.slice N CP.length cn] 31)) := hb.alloc hb.size _
 have hN4 := ownS_grown hN (World.grownBy_alloc w3 (Obj.cells #[Value.slice N CP.length cn] 31) none) (fun g e => by cases e)
 generalize (w3.alloc (Obj.cells #[Value.slice N CP.length cn] 31)) = w4 at *
 have GT := StrK.only_below b4 none
 obtain ⟨es, hes, hrow, hel, hnd, hog, hdi⟩ := hO
 have hltE : ∀ g ∈ fps es, g < wo.heap.size := fun g hg => by
  obtain ⟨y, hy, hx⟩ := List.mem_flatMap.1 hg
  exact rowString.lt (hel y hy) g hx
 have hel4 : ∀ y ∈ es, rowString.rep true w4 y.1 y.2.1 y.2.2 := fun y hy => rowString.same (hel y hy) GT.size (fun g hg => GT.block g (rowString.lt (hel y hy) g hg) (fun e => by cases e))
 refine ⟨cells es, own_below hrow b4, fun v5 w5 hown5 hgrow hwh => ?_⟩
 have hvd : ∀ g, vd.ownBlock = some g → g < wo.heap.size := fun g e => (hd.lt g e).2
 have hd5 : w5.ownsRow w1.heap.size 9 1 vd done.length (done.map Value.string) := (own_below hd b4).kept hgrow (by
  cases hq : vd.ownBlock with
  | none => exact Or.inl rfl
  | some g => exact Or.inr (fun e => (hog g e.symm).2 hq))
 have hN5 := ownS_grown hN4 hgrow (fun g e => Or.inl (by have := (hrow.lt g e).2; omega))
 obtain ⟨qn, fpn, hn9⟩ := hN5.arg
 have hs4 := b4.size
 have hs5 := hgrow.size
 have hO5 : Owned rowString 31 (OkO w w1 vd) w5 v5 (out ++ [CP]) := by
  obtain ⟨_, fpN, q1, q2, q3⟩ := hN4
  exact Owned.snoc (r := rowString) (e := 31) (ok := OkO w w1 vd) (m := wo.heap.size) hes hel4 hltE hnd hdi (fun g e => ⟨hog g e, (hrow.lt g e).2⟩) q1 q2 (fun g hg => Nat.le_trans hm (q3 g hg).1) (fun g hg => ⟨Or.inr (Nat.le_trans hs hg), fun e => by have := hvd g e; omega⟩) hown5 hgrow hwh hs4
 refine ⟨hd5, row_strs (strs_open hn9).1, by omega, fun v6 w6 hown6 hgrow6 hwh6 => ⟨⟨done ++ CP, out ++ [CP], Lib.hid hadd, Lib.hid (by rw [hZ, hst, List.append_assoc]; rfl), ?_, ?_, ?_, ?_, ?_, ?_, ?_⟩, by rw [own_lenV hown6]; omega⟩⟩
 ·simp only [List.length_append, List.length_singleton]; omega
 ·rw [List.length_append, List.map_append]; exact hown6
 ·have h1 : Owned rowString 31 (fun g => OkO w w1 vd g ∧ v6.ownBlock ≠ some g) w5 v5 (out ++ [CP]) := hO5.to (fun g hg h => ⟨h, fun e => by
   rcases hwh6 with h6 | h6
   ·exact h.2 (by rw [← h6]; exact e)
   ·have := h6 g e; omega⟩)
  exact (h1.grown hgrow6 (fun g e h => h.1.2 e)).to (fun g _ h => ⟨h.1.1, h.2⟩)
 ·exact lvar_grown (lvar_grown (hV.below b4) hgrow (fun e => by have h8 := (hog _ e).1; omega)) hgrow6 (fun e => by have := (hd.lt _ e).1; omega)
 ·exact ownS_grown (ownS_grown (OwnS.below hX b4) hgrow (fun g e => by have h8 := (hog _ e).1; omega)) hgrow6 (fun g e => by have := (hd.lt _ e).1; omega)
 ·exact ((hB.trans (b4.mono hB.size)).grown hgrow (Nat.le_trans hB.size hs4) (fun g e => by have h8 := (hog _ e).1; omega)).grown hgrow6 (by have := hB.size; omega) (fun g e => by have := (hd.lt _ e).1; omega)
 ·have := hgrow6.size; omega
theorem comps_gave {w w1 wr : World} {vo vd : Value} {out : List Nm} (hw1 : w.heap.size + 1 + 1 ≤ w1.heap.size) (hO : Owned rowString 31 (OkO w w1 vd) wr vo out) (hB : Below w.heap.size w wr) : GaveSS w out (.returned vo) wr :=
 owned_gave (w1 := w) (hO.to (fun g _ h => by rcases h.1 with h | h <;> omega)) (Nat.le_refl _) hB
set_option maxHeartbeats 4000000 in
set_option maxRecDepth 100000 in
theorem open_valid (A B L D : Option Addr) (c d lc dc : Nat) (fs : List FunctionT) (rs : List RuleT) (x : ByteArray) (done : List ByteArray) (w : World) (hA : ArgS Mem.fn w A fs.length c fs) (hB : ArgS rule w B rs.length d rs) (hl : szProgramU (fs, rs) ≤ 9000000) (hv : progV fs rs = true) (hx : x ∈ names fs) (hxd : x ∉ done)
  (hL : ArgS Rep.str w L (compL (names fs) (arrows rs) x).length lc (compL (names fs) (arrows rs) x)) (hD : StrK.SRow w D done) (hld : done.length ≤ 9000000) :
  Calls Tryz.prog 51 #[.agg #[.slice A fs.length c, .slice B rs.length d], .slice L (compL (names fs) (arrows rs) x).length lc, .slice D done.length dc] w fun e w' => e = .returned (.bool (okC (names fs) (arrows rs) done x)) ∧ Below w.heap.size w w' := by
 have hpos := List.length_pos_of_mem (compL_self (G := arrows rs) hx)
 have h3 := valid_len hv
 have hcl : (compL (names fs) (arrows rs) x).length ≤ 9000000 := by
  have h1 := compL_len (ns := names fs) (G := arrows rs) (a := x)
  unfold names at h1 ⊢
  rw [List.length_map] at h1
  omega
 have h := l13Open A B L D c d lc dc fs rs _ _ done w hA hB hl hL hD (List.getElem?_eq_getElem hpos) hcl hld
 refine (Calls.mono h) ?_
 rintro e w' ⟨rfl, hb⟩
 refine ⟨?_, hb⟩
 rw [if_pos hv, open_ok (List.getElem_mem hpos) hxd]
set_option maxHeartbeats 4000000 in
set_option maxRecDepth 100000 in
theorem componentsOf (A B : Option Addr) (c d : Nat) (fs : List FunctionT) (rs : List RuleT) (w : World) (hA : ArgS Mem.fn w A fs.length c fs) (hB : ArgS rule w B rs.length d rs) (hl : szProgramU (fs, rs) ≤ 9000000) :
  Calls Tryz.prog 13 #[.agg #[.slice A fs.length c, .slice B rs.length d]] w (GaveSS w (@ite _ (progV fs rs = true) _ (compsA (names fs) (arrows rs)) [])) := by
 obtain ⟨i0, hi, hz0, hz1, hz2⟩ := info_parts strInfoU
 obtain ⟨j0, ji, jz0, jz1, jz2⟩ := info_parts ssInfo
 have b0 : Below w.heap.size w ((w.alloc (Obj.cells #[Value.slice A fs.length c, Value.slice B rs.length d] 27)).alloc (Obj.cells #[] 31)) := ((Below.refl _ _).alloc (Nat.le_refl _) _).alloc (by simp) _
 have V0 := (Lvar.new w #[Value.slice A fs.length c, Value.slice B rs.length d] 27).alloc (Obj.cells #[] 31)
 have E0 : ((w.alloc (Obj.cells #[Value.slice A fs.length c, Value.slice B rs.length d] 27)).alloc (Obj.cells #[] 31)).heap[w.heap.size + 1]? = some (Obj.cells #[] 31 (0, 0)) := by
  have h9 := heap_alloc_new (w.alloc (Obj.cells #[Value.slice A fs.length c, Value.slice B rs.length d] 27)) (Obj.cells #[] 31)
  simp only [World.size_alloc] at h9
  exact h9
 have OO := Lib.hid (ProgS.own_none (base := 0) (size := 1) E0 (Nat.zero_le _))
 have hfl : fs.length + szs szFunctionU fs ≤ 9000000 := by simp only [szProgramU] at hl; omega
 have NA := Lib.hid (l13Names A (.slice B rs.length d) c fs _ (hA.below b0) hfl)
 have VP := Lib.hid (fun W (h : Below w.heap.size w W) => ProgS.validProg A B c d fs rs W (hA.below h) (hB.below h) hl)
 have CX := Lib.hid (fun x W (h : Below w.heap.size w W) => l13Component A B c d fs rs x W (hA.below h) (hB.below h) hl)
 have OX := Lib.hid (fun (hv : progV fs rs = true) L D lc dc x done W (h : Below w.heap.size w W) => open_valid A B L D c d lc dc fs rs x done W (hA.below h) (hB.below h) hl hv)
 have B0 := Lib.hid b0
 have HV := Lib.hid V0
 have hf9 : fs.length ≤ 9000000 := by omega
 have hnl : (names fs).length ≤ 9000000 := by unfold names; rw [List.length_map]; exact hf9
 obtain ⟨Z, hZ⟩ : ∃ Z, Z = @ite _ (progV fs rs = true) _ (compsA (names fs) (arrows rs)) [] := ⟨_, rfl⟩
 rw [← hZ]
 have HZ := Lib.hid hZ
 clear hA hB b0 V0 E0 hl hfl hZ
 go_enter Tryz.func13, Tryz.ntmps13
 go_wp2_with fail
 refine (Calls.mono NA.out) ?_
 rintro e w1 ⟨X, cx, rfl, oX, b1⟩
 simp only [World.size_alloc] at oX
 have B1 := Lib.hid (below_step B0.out b1)
 have V1 := HV.out.below b1
 have O1 := own_below OO.out b1
 have hw1 : w.heap.size + 1 + 1 ≤ w1.heap.size := by have := b1.size; simpa using this
 have d3 : Below w1.heap.size w1 (w1.alloc (Obj.cells #[] 9)) := (Below.refl _ _).alloc (Nat.le_refl _) _
 have E3 : (w1.alloc (Obj.cells #[] 9)).heap[w1.heap.size]? = some (Obj.cells #[] 9 (0, 0)) := heap_alloc_new w1 (Obj.cells #[] 9)
 have OD := Lib.hid (ProgS.own_none (base := w1.heap.size) (size := 1) E3 (Nat.le_refl _))
 have OO3 := Lib.hid (own_below O1 d3)
 have OX3 := Lib.hid (OwnS.below oX d3)
 have V3 := Lib.hid (V1.below d3)
 have B3 := Lib.hid (below_step B1.out d3)
 have hs3 := d3.size
 clear b1 oX V1 O1 d3 E3 OO B0 HV NA B1
 cases hv : progV fs rs with
 | false =>
  have HF := Lib.hid (show Z = [] by rw [HZ.out, hv]; rfl)
  have FIN := Lib.hid (fun W (h : Below (w1.alloc (Obj.cells #[] 9)).heap.size (w1.alloc (Obj.cells #[] 9)) W) => show GaveSS w [] (.returned (.slice (some ⟨w.heap.size + 1, 0, none⟩) 0 0)) W from owned_gave (w1 := w) ⟨[], rfl, own_below OO3.out h, (fun x hx => by cases hx), List.nodup_nil, (fun g e => by injection e with e; subst e; exact Nat.le_succ _), (fun b hb => by cases hb)⟩ (Nat.le_refl _) (below_step B3.out h))
  have VP4 := Lib.hid (fun W (h : Below (w1.alloc (Obj.cells #[] 9)).heap.size (w1.alloc (Obj.cells #[] 9)) W) => (show Calls _ _ _ _ (fun e w' => e = .returned (.bool false) ∧ _) from by have h9 := VP.out W (below_step B3.out h); rw [hv] at h9; exact h9))
  have V4 := Lib.hid (fun W (h : Below (w1.alloc (Obj.cells #[] 9)).heap.size (w1.alloc (Obj.cells #[] 9)) W) => V3.out.below h)
  clear hv HZ CX OX VP
  go_wp2
  go_loopw [3] (fun v wr => v = .slice (some ⟨w.heap.size + 1, 0, none⟩) 0 0 ∧ Below (w1.alloc (Obj.cells #[] 9)).heap.size (w1.alloc (Obj.cells #[] 9)) wr) (fun _ _ => 0)
  case atStart => exact ⟨rfl, Below.refl _ _⟩
  case round =>
   obtain ⟨rfl, hb⟩ := hrel
   have HB := Lib.hid hb
   have V5 := V4.out wr hb
   have p0 : wr.cell? ⟨w.heap.size, 0, none⟩ = some (.slice A fs.length c) := V5.cell 0 _ rfl
   have p1 : wr.cell? ⟨w.heap.size, 1, none⟩ = some (.slice B rs.length d) := V5.cell 1 _ rfl
   clear hb V5
   go_wp2_with fail
   refine (Calls.mono (VP4.out _ HB.out)) ?_
   rintro e w4 ⟨rfl, b4⟩
   have F4 := Lib.hid (FIN.out _ (below_step HB.out b4))
   clear b4
   go_wp2
   go_ret
   rw [HF.out]
   exact F4.out
 | true =>
  have HZ2 := Lib.hid (show Z = compsA (names fs) (arrows rs) by rw [HZ.out, hv]; rfl)
  have VP := Lib.hid (fun W (h : Below w.heap.size w W) => (show Calls _ _ _ _ (fun e w' => e = .returned (.bool true) ∧ _) from by have h9 := VP.out W h; rw [hv] at h9; exact h9))
  have CO := Lib.hid (fun x W (h : Below w.heap.size w W) => (show Calls Tryz.prog _ _ W (ProgI.GaveS W (compL (names fs) (arrows rs) x)) from by have h9 := CX.out x W h; rw [if_pos hv] at h9; exact h9))
  have OX := Lib.hid (OX.out hv)
  have HND := Lib.hid (valid_nodup hv)
  have C0 := Lib.hid (show CompsO w w1 #[Value.slice A fs.length c, Value.slice B rs.length d] X cx (names fs) (arrows rs) Z (.slice (some ⟨w.heap.size + 1, 0, none⟩) 0 0) (.slice (some ⟨w1.heap.size, 0, none⟩) 0 0) (w1.alloc (Obj.cells #[] 9)) from
   ⟨[], [], Lib.hid (DoneC.nil _ _), Lib.hid HZ2.out, Nat.le_refl _, OD.out, ⟨[], rfl, OO3.out, (fun x hx => by cases hx), List.nodup_nil, (fun g e => by injection e with e; subst e; exact ⟨Or.inl rfl, fun e => by injection e with e; have : w1.heap.size = w.heap.size + 1 := e; omega⟩), (fun b hb => by cases hb)⟩, V3.out, OX3.out, B3.out, by simp⟩)
  clear hv HZ HZ2 CX OO3 OX3 OD V3 B3
  generalize arrows rs = G at *
  go_wp2
  go_loopw [3, 5] (fun vo vd wr => CompsO w w1 #[Value.slice A fs.length c, Value.slice B rs.length d] X cx (names fs) G Z vo vd wr) (fun _ vd _ => (names fs).length - lenV vd)
  case atStart => exact C0.out
  case round =>
   obtain ⟨wo, rfl⟩ : ∃ wo : World, wo = wr := ⟨_, rfl⟩
   obtain ⟨vo, rfl⟩ : ∃ vo : Value, vo = u3 := ⟨_, rfl⟩
   obtain ⟨done, out, hD, hZ, hol, hd, hO, hV, hX, hB, hs⟩ := hrel
   obtain ⟨D, dc, rfl, hdr, _, hdb, _⟩ := StrK.of_own hd
   have HD := Lib.hid hD.out
   have HZ := Lib.hid hZ.out
   have HO := Lib.hid hO
   have HVV := Lib.hid hV
   have HX := Lib.hid hX
   have HB := Lib.hid hB
   have HDD := Lib.hid hd
   have HDR := Lib.hid hdr
   have hdl := HD.out.len
   have HW1 := Lib.hid hw1
   have p0 : wo.cell? ⟨w.heap.size, 0, none⟩ = some (.slice A fs.length c) := hV.cell 0 _ rfl
   have p1 : wo.cell? ⟨w.heap.size, 1, none⟩ = some (.slice B rs.length d) := hV.cell 1 _ rfl
   have VP1 := Lib.hid (VP.out wo HB.out)
   clear hD hZ hd hO hV hX hB hdr hdb C0
   go_wp2_with fail
   refine (Calls.mono VP1.out) ?_
   rintro e w2 ⟨rfl, b2⟩
   have B2 := Lib.hid b2
   have hs2 := b2.size
   clear b2 p0 p1 VP1
   by_cases hlt : done.length < (names fs).length
   ·have hd0 : decide ((done.length : Int) < ((names fs).length : Int)) = true := decide_eq_true (by omega)
    obtain ⟨y, hy, hok⟩ := DoneC.some (G := G) HND.out hlt
    have HEX := Lib.hid (show ∃ y ∈ names fs, okC (names fs) G done y = true from ⟨y, hy, hok⟩)
    clear hy hok
    go_wp2
    go_loopw [3, 5, 6] (fun z3 z5 i wq => z3 = vo ∧ z5 = .slice D done.length dc ∧ ∃ j : Nat, j ≤ (names fs).length ∧ i = .int .i64 j ∧ Hid (∀ x ∈ (names fs).take j, okC (names fs) G done x = false) ∧ Below wo.heap.size wo wq) (fun _ _ i _ => (names fs).length - (intOf i).toNat)
    case atStart => exact ⟨rfl, rfl, 0, Nat.zero_le _, rfl, Lib.hid (fun x hx => by simp at hx), B2.out⟩
    case round =>
     obtain ⟨rfl, rfl, j, hj, rfl, hpre, hq⟩ := hrel
     have HPRE := Lib.hid hpre.out
     have HQ := Lib.hid hq
     clear hpre hq hd0
     by_cases hltj : j < (names fs).length
     ·obtain ⟨qx, fpx, hx9⟩ := (OwnS.below HX.out HQ.out).arg
      obtain ⟨bx, ox, rfl, hbx, hcx⟩ := (strs_open hx9).1.at_ hltj
      have HXN := Lib.hid (List.getElem_mem hltj)
      have HNX := Lib.hid (fun h2 => next_hit hltj HPRE.out h2)
      have HST := Lib.hid (show okC (names fs) G done (names fs)[j] = false → ∀ z ∈ (names fs).take (j + 1), okC (names fs) G done z = false from fun h z hz => by
       rw [take_snoc hltj] at hz
       rcases List.mem_append.1 hz with hz | hz
       ·exact HPRE.out z hz
       ·rw [List.mem_singleton.1 hz]; exact h)
      generalize (names fs)[j] = x at *
      have hi0 : (0 : Int) ≤ (j : Int) := by omega
      have hi1 : (j : Int) < ((names fs).length : Int) := by omega
      have VW := HVV.out.below HQ.out
      have p0 : wr.cell? ⟨w.heap.size, 0, none⟩ = some (.slice A fs.length c) := VW.cell 0 _ rfl
      have p1 : wr.cell? ⟨w.heap.size, 1, none⟩ = some (.slice B rs.length d) := VW.cell 1 _ rfl
      have KS := Lib.hid (fun (W : World) (h : Below wr.heap.size wr W) => (⟨(VW.below h).cell 0 _ rfl, (VW.below h).cell 1 _ rfl, (h.cell (p := ⟨bx, ox + j, none⟩) hbx).trans hcx⟩ : W.cell? ⟨w.heap.size, 0, none⟩ = some (Value.slice A fs.length c) ∧ W.cell? ⟨w.heap.size, 1, none⟩ = some (Value.slice B rs.length d) ∧ W.cell? ⟨bx, ox + j, none⟩ = some (Value.string x)))
      have BR := Lib.hid (below_step HB.out HQ.out)
      have CO := Lib.hid (fun (W : World) (h : Below wr.heap.size wr W) => CO.out x W (below_step BR.out h))
      have D0 := Lib.hid (Below.refl wr.heap.size wr).drew
      have D0r := Lib.hid (Below.refl wr.heap.size wr)
      have hi1c : decide ((j : Int) < ((names fs).length : Int)) = true := decide_eq_true hi1
      clear VW hx9
      go_wp2_with fail
      refine wp_region_held_drew (S := (fun W => W.cell? ⟨w.heap.size, 0, none⟩ = some (Value.slice A fs.length c) ∧ W.cell? ⟨w.heap.size, 1, none⟩ = some (Value.slice B rs.length d) ∧ W.cell? ⟨bx, ox + j, none⟩ = some (Value.string x))) (by kernel_rfl) ?_ (fun hHeld => ?_)
      ·(try dsimp only); first | exact KS.out _ D0.out | exact KS.out _ D0r.out
      refine wpAnyH_take (i := 0) (oi := { dst := some 27, op := Op.load 27 (Operand.tmp 1), type := 27, pos := "l13_graph.go:77", after := #[], guard := none }) (v := ?v7_0) rfl (by kernel_rfl) (by kernel_rfl) (by kernel_rfl) (fun _ _ _ h => h) (Or.inl ⟨by rfl, ?hy7_0⟩) (by assumption) ?r7_0
      case hy7_0 => (intro w hSw; (try dsimp only at hSw); go_simp; try (with_reducible rfl))
      (try simp only [Act.put, zA, zB, zC])
      refine wpAnyH_take (i := 1) (oi := { dst := some 28, op := Op.move (Operand.tmp 4), type := 31, pos := "l13_graph.go:77", after := #[], guard := none }) (v := ?v7_1) rfl (by kernel_rfl) (by kernel_rfl) (by kernel_rfl) (fun _ _ _ h => h) (Or.inl ⟨by rfl, ?hy7_1⟩) (by assumption) ?r7_1
      case hy7_1 => (intro w hSw; (try dsimp only at hSw); go_simp; try (with_reducible rfl))
      (try simp only [Act.put, zA, zB, zC])
      refine wpAnyH_take (i := 2) (oi := { dst := some 29, op := Op.move (Operand.tmp 6), type := 3, pos := "l13_graph.go:77", after := #[], guard := none }) (v := ?v7_2) rfl (by kernel_rfl) (by kernel_rfl) (by kernel_rfl) (fun _ _ _ h => h) (Or.inl ⟨by rfl, ?hy7_2⟩) (by assumption) ?r7_2
      case hy7_2 => (intro w hSw; (try dsimp only at hSw); go_simp; try (with_reducible rfl))
      (try simp only [Act.put, zA, zB, zC])
      refine wpAnyH_take (i := 3) (oi := { dst := some 30, op := Op.indexAddr 31 (Operand.tmp 28) (Operand.tmp 29), type := 0, pos := "l13_graph.go:77", after := #[{ on := 1, ground := Ground.data }, { on := 2, ground := Ground.data }], guard := none }) (v := ?v7_3) rfl (by kernel_rfl) (by kernel_rfl) (by kernel_rfl) (fun _ _ _ h => h) (Or.inl ⟨by rfl, ?hy7_3⟩) (by assumption) ?r7_3
      case hy7_3 => (intro w hSw; (try dsimp only at hSw); go_simp; try (with_reducible rfl))
      (try simp only [Act.put, zA, zB, zC])
      refine wpAnyH_take (i := 4) (oi := { dst := some 31, op := Op.load 9 (Operand.tmp 30), type := 9, pos := "l13_graph.go:77", after := #[{ on := 3, ground := Ground.data }], guard := none }) (v := ?v7_4) rfl (by kernel_rfl) (by kernel_rfl) (by kernel_rfl) (fun _ _ _ h => h) (Or.inl ⟨by rfl, ?hy7_4⟩) (by assumption) ?r7_4
      case hy7_4 => (intro w hSw; (try dsimp only at hSw); go_simp; try (with_reducible rfl))
      (try simp only [Act.put, zA, zB, zC])
      refine wpAnyH_ready (rs := [5]) (by kernel_rfl) (by simp) ?_
      refine AllReadyH.cons (o := { dst := some 32, op := Op.call { callee := Callee.value (Operand.func 50), args := #[Operand.tmp 27, Operand.tmp 31], argTypes := #[27, 9] }, type := 31, pos := "l13_graph.go:77", after := #[{ on := 0, ground := Ground.data }, { on := 4, ground := Ground.data }], guard := none }) rfl (fun K hK => ?_) AllReadyH.nil
      go_simp
      go_at_call 50; (with_reducible refine (Calls.mono (CO.out _ D0.out)) ?_); rintro e w3 ⟨N, cn, rfl, oN, b1⟩; (have D1 := Lib.hid (below_step D0.out b1)); (have ON := Lib.hid oN); clear b1 oN
      refine hK.out _ _ ?_ (fun hHeld2 => ?_)
      ·(try dsimp only); exact KS.out _ D1.out
      clear hK K
      (try simp only [Act.put, zA, zB, zC])
      refine wpAnyH_take (i := 6) (oi := { dst := some 7, op := Op.assign (Operand.tmp 32), type := 31, pos := "l13_graph.go:77", after := #[{ on := 5, ground := Ground.data }, { on := 5, ground := Ground.chain }, { on := 0, ground := Ground.phase }, { on := 1, ground := Ground.phase }, { on := 2, ground := Ground.phase }, { on := 3, ground := Ground.phase }, { on := 4, ground := Ground.phase }, { on := 5, ground := Ground.phase }], guard := none }) (v := ?v7_6) rfl (by kernel_rfl) (by kernel_rfl) (by kernel_rfl) (fun _ _ _ h => h) (Or.inl ⟨by rfl, ?hy7_6⟩) (by assumption) ?r7_6
      case hy7_6 => (intro w hSw; (try dsimp only at hSw); go_simp; try (with_reducible rfl))
      (try simp only [Act.put, zA, zB, zC])
      refine wpAnyH_done (by kernel_rfl) ?_ _
      obtain ⟨r0, r1, r2⟩ := KS.out _ D1.out
      have hbx3 : bx < w3.heap.size := Nat.lt_of_lt_of_le hbx D1.out.size
      have D2 := Lib.hid (below_step HQ.out D1.out)
      have IX := Lib.hid (NameS.specIndex D dc done x w3 (HDR.out.below D2.out) (by omega))
      clear hcx KS CO p0 p1 D0 D0r
      generalize hY : Lib.idxOfS done x = y at *
      by_cases hxd : x ∈ done
      ·have e1 : decide (y < 0) = false := decide_eq_false (by have := (Lib.idxOfS_nonneg_iff done x).2 hxd; omega)
       have hkf : okC (names fs) G done x = false := by
        cases hq : okC (names fs) G done x with
        | false => rfl
        | true => exact absurd hxd (okC_iff.1 hq).1
       have HP2 := Lib.hid (HST.out hkf)
       have HD2 := D2
       clear hxd hkf hY OX HEX HNX
       go_wp2_with fail
       refine (Calls.mono IX.out) ?_
       rintro e w4 ⟨rfl, rfl⟩
       go_wp2
       go_roundw
       case rel => exact ⟨rfl, rfl, j + 1, by omega, by go_num, HP2, HD2.out⟩
       case measure => simp [intOf]; omega
      ·have e1 : decide (y < 0) = true := decide_eq_true (by
        have h9 := Lib.idxOfS_nonneg_iff done x
        by_cases h8 : 0 ≤ y
        ·exact absurd (h9.1 (by rw [hY]; exact h8)) hxd
        ·omega)
       have HXD := Lib.hid hxd
       have OP := Lib.hid (OX.out N D cn dc x done w3 (below_step HB.out D2.out) HXN.out hxd ON.out.arg (HDR.out.below D2.out) (by omega))
       have hcl := Nat.le_trans (compL_len (ns := names fs) (G := G) (a := x)) hnl
       have hdl9 : done.length ≤ 9000000 := by omega
       obtain ⟨q, hq⟩ : ∃ q, q = okC (names fs) G done x := ⟨_, rfl⟩
       have HQQ := Lib.hid hq
       have OP := Lib.hid (show Calls _ _ _ _ (fun e w' => e = .returned (.bool q) ∧ _) from by have h9 := OP.out; rw [← hq] at h9; exact h9)
       clear hxd hY OX hq
       go_wp2_with fail
       refine (Calls.mono IX.out) ?_
       rintro e w4 ⟨rfl, rfl⟩
       go_wp2_with fail
       refine (Calls.mono OP.out) ?_
       rintro e w4 ⟨rfl, b4⟩
       have D4 := Lib.hid (below_step D2.out b4)
       have ON4 := Lib.hid (OwnS.below ON.out b4)
       clear b4 r0 r1 OP IX
       cases q with
       | false =>
        have HP2 := Lib.hid (HST.out HQQ.out.symm)
        go_wp2
        go_roundw
        case rel => exact ⟨rfl, rfl, j + 1, by omega, by go_num, HP2, D4.out⟩
        case measure => simp [intOf]; omega
       | true =>
        obtain ⟨cs, hcs, hstep⟩ := comps_step HW1.out HND.out HD.out HZ.out hol HDD.out HO.out HVV.out HX.out HB.out hs D4.out ON4.out HQ.out.size HXN.out HXD.out (HNX.out HQQ.out.symm)
        have HCS := Lib.hid hcs
        have HSTEP := Lib.hid hstep
        generalize compL (names fs) G x = CP at *
        have RN := Lib.hid (show Row 0 (w4.alloc (Obj.cells #[Value.slice N CP.length cn] 31)).heap.size (w4.alloc (Obj.cells #[Value.slice N CP.length cn] 31)) (some ⟨w4.heap.size, 0, none⟩) [.slice N CP.length cn] from row_new (heap_alloc_new w4 (Obj.cells #[Value.slice N CP.length cn] 31)))
        have hol9 : out.length ≤ 9000000 := by omega
        clear hcs hstep
        go_upto_region 11 with (at_builtin; go_loud (refine wpList_append_rowW rfl _ _ _ rfl 31 j0 (.slice none 0 0) 1 24 0 Tryz.underlying29 ji jz0 jz1 jz2 rfl (by decide) _ out.length cs rfl HCS.out _ 1 _ [.slice N CP.length cn] rfl rfl RN.out (by simp [Value.oneCell']) (by unfold maxLen; omega) (by omega) (Nat.zero_le _) ?_); intro v5 w5 hown5 hgrow5 hwh5)
        obtain ⟨hd5, hn5, hs5, hst5⟩ := HSTEP.out v5 w5 hown5 hgrow5 hwh5
        have HD5 := Lib.hid hd5
        have HN5 := Lib.hid hn5
        have HST5 := Lib.hid hst5
        clear hown5 hgrow5 hwh5 hd5 hn5 hst5
        go_wp2_with (at_builtin; go_loud (refine wpList_append_rowW rfl _ _ _ rfl 9 i0 (.string ByteArray.empty) 1 16 w1.heap.size Tryz.underlying31 hi hz0 hz1 hz2 rfl (by decide) _ done.length (done.map Value.string) rfl HD5.out _ CP.length _ (CP.map Value.string) rfl (by simp) HN5.out (by simp [Value.oneCell']) (by unfold maxLen; omega) (by omega) hs5 ?_); intro v6 w6 hown6 hgrow6 hwh6; go_frame)
        obtain ⟨hC6, hl6⟩ := HST5.out v6 w6 hown6 hgrow6 hwh6
        have HC6 := Lib.hid hC6
        clear hown6 hgrow6 hwh6 hC6
        go_roundw
        case rel => exact HC6.out
        case measure => simp only [lenV] at hl6 ⊢; omega
     ·obtain rfl : j = (names fs).length := by omega
      exfalso
      obtain ⟨y, hy, hok⟩ := HEX.out
      have h9 := HPRE.out y (by rw [List.take_length]; exact hy)
      rw [h9] at hok
      cases hok
   ·have hd0 : decide ((done.length : Int) < ((names fs).length : Int)) = false := decide_eq_false (by omega)
    have HFN := Lib.hid (show Z = out by rw [HZ.out, compsL_done (HD.out.all hlt), List.append_nil])
    have FIN := Lib.hid (comps_gave hw1 (HO.out.below B2.out) (below_step HB.out B2.out))
    go_wp2
    go_ret
    rw [HFN.out]
    exact FIN.out
end GraphS
end Go.Proofs.YtbbllkhmenpnlaaGreat
