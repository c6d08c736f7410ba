import Derived.Test.YtmkelfjnjnjgbaaDrawAny3
import Derived.Test.YtmkelfjnjnjgbaaRow
import Derived.Test.YtmkelfjnjnjgbaaIntRow
import Derived.Test.YtmkelfjnjnjgbaaLinImpl2
import Derived.Test.YtmkelfjnjnjgbaaAppend2
import Derived.Deep.RegionHeld3
import Derived.Deep.DeepCutAuto
import Derived.Deep.RegionLawGrows
import Derived.Deep.AppendLies
/-
  The draws of the fourth chapter: linear expressions.
-/
namespace Go.Proofs.Ytmkelfjnjnjgbaa
open Go.RowKit
namespace Draw
open RowK

theorem mod_only {w w' : World} {g o : Nat} (h : StrK.Only w w' (some ⟨g, o, none⟩)) : Mod g (g + 1) w w' :=
  ⟨h.os, h.tape, h.output, h.size, fun i hi hn => h.block i hi (by intro e; simp at e; omega)⟩
theorem mod_new {lo hi : Nat} {w w' : World} (h : Mod lo hi w w') {p : Addr} (hp : w.heap.size ≤ p.block) (v : Value) : Mod lo hi w (w'.setCell p v) :=
  ⟨h.os, h.tape, h.output, Nat.le_trans h.size (by simp), fun i hi hn => by rw [Below.heap_setCell _ _ _ _ (by omega)]; exact h.block i hi hn⟩
theorem mod_alloc {lo hi : Nat} {w w' : World} (h : Mod lo hi w w') (o : Obj) : Mod lo hi w (w'.alloc o) := h.trans (Mod.alloc _ _ _ _)

/-- A cursor stays where only younger blocks were written. -/
theorem Cur.mod {w w' : World} {g lo hi : Nat} {A : Option Addr} {n c : Nat} (h : Cur w g A n c) (m : Mod lo hi w w') (hg : g < lo) : Cur w' g A n c := by
  have hlt := h.lt
  obtain ⟨hc, ha, i, x, h1, h2, hh⟩ := h
  refine ⟨fun hn => ?_, ha, i, x, h1, h2, ?_⟩
  · obtain ⟨b, o, rfl, hb, hcell⟩ := hc hn
    have hbg := ha _ rfl hn
    exact ⟨b, o, rfl, Nat.lt_of_lt_of_le hb m.size, fun j hj => by
      obtain ⟨y, y0, y1, hy⟩ := hcell j hj
      exact ⟨y, y0, y1, m.cell hy (by have : b < g := hbg; omega)⟩⟩
  · rw [m.block g hlt (by omega)]; exact hh

/-- What a function of the cursor leaves: the cursor, and nothing else that was there has turned. -/
def Kept (w : World) (g : Nat) (A : Option Addr) (n c : Nat) (w' : World) : Prop := Cur w' g A n c ∧ Mod g (g + 1) w w'
theorem Left.kept {w w' : World} {g : Nat} {A : Option Addr} {n c : Nat} (h : Left w g A n c w') : Kept w g A n c w' := ⟨h.1, mod_only h.2⟩
theorem Kept.trans {w w1 w2 : World} {g : Nat} {A : Option Addr} {n c : Nat} (h : Kept w g A n c w1) (k : Kept w1 g A n c w2) : Kept w g A n c w2 := ⟨k.1, h.2.trans k.2⟩
theorem Kept.alloc {w w' : World} {g : Nat} {A : Option Addr} {n c : Nat} (h : Kept w g A n c w') (o : Obj) : Kept w g A n c (w'.alloc o) := ⟨h.1.keep ((Below.refl _ _).alloc (Nat.le_refl _) _), mod_alloc h.2 o⟩
theorem Kept.drew {w w' : World} {g : Nat} {A : Option Addr} {n c : Nat} (h : Kept w g A n c w') : Kept w g A n c w'.drew := ⟨h.1.keep (Below.refl _ _).drew, h.2.drew⟩
theorem Kept.drewN {w w' : World} {g : Nat} {A : Option Addr} {n c : Nat} (h : Kept w g A n c w') (k : Nat) : Kept w g A n c (w'.drewN k) := ⟨h.1.keep (below_drewN (Below.refl _ _) k), h.2.drewN k⟩
theorem Kept.set {w w' : World} {g : Nat} {A : Option Addr} {n c : Nat} (h : Kept w g A n c w') (hg : g < w.heap.size) {p : Addr} (hp : w.heap.size ≤ p.block) (v : Value) : Kept w g A n c (w'.setCell p v) :=
  ⟨h.1.mod (Mod.set w' (p := p) (Nat.le_refl _) (Nat.lt_succ_self _) v) (by omega), mod_new h.2 hp v⟩
theorem kept_refl {w : World} {g : Nat} {A : Option Addr} {n c : Nat} (h : Cur w g A n c) : Kept w g A n c w := ⟨h, Mod.refl _ _ _⟩
theorem kept_new {w w1 w' : World} {g : Nat} {A : Option Addr} {n c : Nat} (h : Below w.heap.size w w1) (hg : w.heap.size ≤ g) (k : Kept w1 g A n c w') : Below w.heap.size w w' := below_mod h k.2 hg h.size

/-- The small numbers. -/
def smalls : List Int := [0, 0, 1, -1, 1, 2, -2, 3]
theorem smalls_range : ∀ x ∈ smalls, -3 ≤ x ∧ x ≤ 3 := by decide

set_option maxHeartbeats 1000000 in
set_option maxRecDepth 100000 in
theorem small4 (g : Nat) (A : Option Addr) (n c : Nat) (w : World) (hC : Cur w g A n c) :
    Calls Try.prog 89 #[.pointer (some ⟨g, 0, none⟩)] w fun e w' => ∃ x : Int, (-3 ≤ x ∧ x ≤ 3) ∧ e = .returned (.int .i64 x) ∧ Kept w g A n c w' := by
  go_enter Try.func89, Try.ntmps89
  go_wp2_with fail
  have hba : Below w.heap.size w (w.alloc (.cells (smalls.map (Value.int .i64)).toArray 3)) := (Below.refl _ _).alloc (Nat.le_refl _) _
  refine ((pickInt g A n c (some ⟨w.heap.size, 0, none⟩) 8 8 smalls rfl (by decide) (by omega) _ (hC.keep hba) (irow_new w smalls 3) (fun b e => by injection e with e; subst e; have := hC.lt; show w.heap.size ≠ g; omega))).mono ?_
  rintro e w2 ⟨y, hy, rfl, hL2⟩
  have hr := smalls_range y hy
  go_wp2
  go_ret
  exact ⟨y, hr, rfl, (left_keep hC.lt hba hL2).kept⟩

/-- Inside a drawing: the cursor, and the result's block as it was made. -/
def SH (w : World) (g : Nat) (A : Option Addr) (n c : Nat) (cs : Array Value) (W : World) : Prop := Kept w g A n c W ∧ Lvar W w.heap.size cs
theorem SH.alloc {w W : World} {g n c : Nat} {A : Option Addr} {cs : Array Value} (h : SH w g A n c cs W) (o : Obj) : SH w g A n c cs (W.alloc o) := ⟨h.1.alloc o, h.2.alloc o⟩
theorem SH.call {w W W' : World} {g n c : Nat} {A : Option Addr} {cs : Array Value} (h : SH w g A n c cs W) (hg : g < w.heap.size) (k : Kept W g A n c W') : SH w g A n c cs W' := ⟨h.1.trans k, h.2.keep k.2 (by omega)⟩
theorem SH.set {w W : World} {g n c : Nat} {A : Option Addr} {cs : Array Value} (h : SH w g A n c cs W) (hg : g < w.heap.size) {p : Addr} (hp : w.heap.size + 1 ≤ p.block) (v : Value) : SH w g A n c cs (W.setCell p v) := ⟨h.1.set hg (by omega) v, h.2.other (by omega) v⟩

/-- Behind the making of an expression of zeros. -/
def Zeros (w : World) (g : Nat) (A : Option Addr) (n c m : Nat) (s : Value) (wx : World) : Prop :=
  ∃ (b : Nat) (a : Addr) (z : Int), s = .pointer (some ⟨b, 0, none⟩) ∧ (-4 ≤ z ∧ z ≤ 4) ∧ w.heap.size + 1 ≤ b ∧ a.block ≠ b ∧ Lvar wx b #[.int .i64 z, .slice (some a) m m] ∧ IntK.Own (w.heap.size + 1) wx.heap.size wx (some a) (List.replicate m 0) ∧ Kept w g A n c wx

/-- A small linear expression in new memory. -/
def SomeLin (w : World) (g : Nat) (A : Option Addr) (n c : Nat) (P : Int → List Int → Nat → Prop) (e : Ending) (w' : World) : Prop :=
  ∃ z zs B d, e = .returned (.agg #[.int .i64 z, .slice B zs.length d]) ∧ P z zs d ∧ zs.length ≤ d ∧ IntK.Own w.heap.size w'.heap.size w' B zs ∧ Kept w g A n c w'

def Small4 (m : Nat) (z : Int) (zs : List Int) (d : Nat) : Prop := (-4 ≤ z ∧ z ≤ 4) ∧ zs.length = m ∧ d = m ∧ ∀ x ∈ zs, -3 ≤ x ∧ x ≤ 3

theorem new1 (w : World) (o : Obj) (cs : Array Value) (T : TypeId) : Lvar ((w.alloc o).alloc (Obj.cells cs T)) (w.heap.size + 1) cs := by
  have := Lvar.new (w.alloc o) cs T
  rwa [World.size_alloc] at this
theorem new2 (w : World) (o o' : Obj) (cs : Array Value) (T : TypeId) : Lvar (((w.alloc o).alloc o').alloc (Obj.cells cs T)) (w.heap.size + 1 + 1) cs := by
  have := new1 (w.alloc o) o' cs T
  rwa [World.size_alloc] at this
theorem zeros_mk {w wx : World} {g n c m a b : Nat} {A : Option Addr} {z : Int} (hz : -4 ≤ z ∧ z ≤ 4) (hb : Lvar wx b #[.int .i64 z, .slice (some ⟨a, 0, none⟩) m m]) (ha : Lvar wx a (madeCells #[Value.int IntKind.i64 0] m)) (hab : a ≠ b) (h1 : w.heap.size + 1 ≤ a) (h2 : w.heap.size + 1 ≤ b) (k : Kept w g A n c wx) :
    Zeros w g A n c m (.pointer (some ⟨b, 0, none⟩)) wx := by
  have hr := ha.row
  rw [toList_madeCells_one, size_madeCells] at hr
  have hl := ha.lt
  refine ⟨b, ⟨a, 0, none⟩, z, rfl, hz, h2, hab, hb, ⟨?_, ?_⟩, k⟩
  · rw [show IntK.iv (List.replicate m 0) = List.replicate m (.int .i64 0) by simp [IntK.iv]]
    exact hr.1.wider h1 hl (Nat.le_refl _)
  · rw [List.length_replicate]; exact hr.2
theorem newset (w : World) (p q : Addr) (u v : Value) (cs : Array Value) (T : TypeId) : Lvar (((w.setCell p u).setCell q v).alloc (Obj.cells cs T)) w.heap.size cs := by
  have := Lvar.new ((w.setCell p u).setCell q v) cs T
  simpa using this
theorem set01 {w : World} {b : Nat} {x y u v : Value} (h : Lvar w b #[x, y]) : Lvar ((w.setCell ⟨b, 0, none⟩ u).setCell ⟨b, 1, none⟩ v) b #[u, v] := by
  have := (h.set 0 u).set 1 v
  simpa using this
theorem other01 {w : World} {a b : Nat} {cs : Array Value} {u v : Value} (h : Lvar w a cs) (hab : a ≠ b) : Lvar ((w.setCell ⟨b, 0, none⟩ u).setCell ⟨b, 1, none⟩ v) a cs := (h.other hab u).other hab v

set_option maxHeartbeats 2000000 in
set_option maxRecDepth 100000 in
theorem draw4 (g : Nat) (A : Option Addr) (n c m : Nat) (hm : m ≤ 100) (w : World) (hC : Cur w g A n c) :
    Calls Try.prog 70 #[.pointer (some ⟨g, 0, none⟩), .int .i64 m] w (SomeLin w g A n c (Small4 m)) := by
  have HC := Lib.hid (kept_refl hC)
  have hgl := hC.lt
  have hmk := IntK.run_mk m (by omega)
  go_enter Try.func70, Try.ntmps70
  go_upto_region 1 with fail
  go_cut [5] (fun s wx => Lvar wx w.heap.size #[Value.int IntKind.i64 0, Value.slice none 0 0] ∧ Zeros w g A n c m s wx)
  case first =>
    have S0 := Lib.hid (show SH w g A n c #[Value.int IntKind.i64 0, Value.slice none 0 0] ((w.alloc (Obj.cells #[Value.int IntKind.i64 0, Value.slice none 0 0] 29)).drew) from ⟨(HC.out.alloc _).drew, Lvar.new w _ _⟩)
    go_region_held3 (fun W => SH w g A n c #[Value.int IntKind.i64 0, Value.slice none 0 0] W)
      (first | exact sh1 | exact S0.out | exact SH.alloc (by assumption) _ | exact (sh1.alloc _).alloc _ | exact sh1.alloc _ | exact (sh1.set hgl (by first | (simp; done) | (simp; omega)) _).set hgl (by first | (simp; done) | (simp; omega)) _ | exact ((sh1.set hgl (by first | (simp; done) | (simp; omega)) _).set hgl (by first | (simp; done) | (simp; omega)) _).alloc _ | exact ((sh1.alloc _).set hgl (by first | (simp; done) | (simp; omega)) _).set hgl (by first | (simp; done) | (simp; omega)) _ | exact SH.set (SH.set (by assumption) hgl (by first | (simp; done) | (simp; omega)) _) hgl (by first | (simp; done) | (simp; omega)) _)
      ((go_at_call 66; refine (Calls.mono (below g A n c 9 (by omega) _ (show SH w g A n c #[Value.int IntKind.i64 0, Value.slice none 0 0] _ by assumption).1.1)) ?_; rintro e w1 ⟨x, hx0, hx1, _, rfl, hL⟩; (have hx2 := hx1 (by omega)); (have hw4 : IntKind.i64.wrap (x - 4) = x - 4 := IntWalk.i64_in _ (by omega)); (have m1 := hL.kept.2); (have sh1 : SH w g A n c #[Value.int IntKind.i64 0, Value.slice none 0 0] w1 := SH.call (by assumption) hgl hL.kept); (try (have p1 : Lvar w1 (w.heap.size + 1) #[Value.int IntKind.i64 0, Value.slice none 0 0] := by refine Lvar.keep ?_ m1 (by omega); first | exact new1 w _ _ _ | exact (new1 w _ _ _).alloc _)); (try (have q1 : Lvar w1 (w.heap.size + 1) (madeCells #[Value.int IntKind.i64 0] m) := by refine Lvar.keep ?_ m1 (by omega); first | exact new1 w _ _ _ | exact (new1 w _ _ _).alloc _)); (try (have p2 : Lvar w1 (w.heap.size + 1 + 1) #[Value.int IntKind.i64 0, Value.slice none 0 0] := by refine Lvar.keep ?_ m1 (by omega); first | exact new2 w _ _ _ _)); (try (have q2 : Lvar w1 (w.heap.size + 1 + 1) (madeCells #[Value.int IntKind.i64 0] m) := by refine Lvar.keep ?_ m1 (by omega); first | exact new2 w _ _ _ _)); (try (have z0 := p1.cell 0 (.int .i64 0) rfl; have z1 := p1.cell 1 (.slice none 0 0) rfl; have f0 := p1.frozen 0; have f1 := p1.frozen 1; have g1 := p1.lt)); (try (have z0 := p2.cell 0 (.int .i64 0) rfl; have z1 := p2.cell 1 (.slice none 0 0) rfl; have f0 := p2.frozen 0; have f1 := p2.frozen 1; have g1 := p2.lt))))
    all_goals
      have hzz : -4 ≤ x - 4 ∧ x - 4 ≤ 4 := by omega
      have hsz1 : w.heap.size + 1 ≤ w1.heap.size := sh1.2.lt
      go_wp2_with fail
      go_meet
      first
        | exact ⟨((sh1.alloc _).alloc _).2, zeros_mk hzz (new1 _ _ _ _) ((Lvar.new _ _ _).alloc _) (by omega) (by omega) (by omega) ((sh1.alloc _).alloc _).1⟩
        | exact ⟨((sh1.alloc _).alloc _).2, zeros_mk hzz ((Lvar.new _ _ _).alloc _) (new1 _ _ _ _) (by omega) (by omega) (by omega) ((sh1.alloc _).alloc _).1⟩
        | exact ⟨(sh1.alloc _).2, zeros_mk hzz (Lvar.new _ _ _) (q1.alloc _) (by have := q1.lt; omega) (by omega) (by omega) (sh1.alloc _).1⟩
        | exact ⟨((sh1.set hgl (by first | (simp; done) | (simp; omega)) _).set hgl (by first | (simp; done) | (simp; omega)) _).2, zeros_mk hzz (set01 p2) (other01 q1 (by omega)) (by omega) (by omega) (by omega) ((sh1.set hgl (by first | (simp; done) | (simp; omega)) _).set hgl (by first | (simp; done) | (simp; omega)) _).1⟩
        | exact ⟨(((sh1.set hgl (by first | (simp; done) | (simp; omega)) _).set hgl (by first | (simp; done) | (simp; omega)) _).alloc _).2, zeros_mk hzz ((set01 p1).alloc _) (newset _ _ _ _ _ _ _) (by have := p1.lt; omega) (by omega) (by omega) (((sh1.set hgl (by first | (simp; done) | (simp; omega)) _).set hgl (by first | (simp; done) | (simp; omega)) _).alloc _).1⟩
        | exact ⟨((sh1.set hgl (by first | (simp; done) | (simp; omega)) _).set hgl (by first | (simp; done) | (simp; omega)) _).2, zeros_mk hzz (set01 p1) (other01 q2 (by omega)) (by omega) (by omega) (by omega) ((sh1.set hgl (by first | (simp; done) | (simp; omega)) _).set hgl (by first | (simp; done) | (simp; omega)) _).1⟩
  case rest =>
    obtain ⟨w1, rfl⟩ : ∃ w1 : World, w1 = wc := ⟨_, rfl⟩
    obtain ⟨l0, b, a, z, rfl, hz, hb, hab, hL, hO, hK⟩ := hcut
    have H0 := Lib.hid l0
    have H1 := Lib.hid hL
    have H2 := Lib.hid hO
    have H3 := Lib.hid hK
    clear l0 hL hO hK hmk
    go_wp2
    go_loopw [6] (fun i wr => ∃ (k : Nat) (zs : List Int), k ≤ m ∧ i = .int .i64 k ∧ zs.length = m ∧ (∀ x ∈ zs, -3 ≤ x ∧ x ≤ 3) ∧ IntK.Own (w.heap.size + 1) w1.heap.size wr (some a) zs ∧ Kept w g A n c wr ∧ w1.heap.size ≤ wr.heap.size ∧ Lvar wr b #[.int .i64 z, .slice (some a) m m] ∧ Lvar wr w.heap.size #[Value.int IntKind.i64 0, Value.slice none 0 0]) (fun i _ => m - (intOf i).toNat)
    case atStart => exact ⟨0, List.replicate m 0, Nat.zero_le _, rfl, by simp, fun x hx => by rw [List.eq_of_mem_replicate hx]; omega, H2.out, H3.out, Nat.le_refl _, H1.out, H0.out⟩
    case round =>
      obtain ⟨k, zs, hk, rfl, hl, hr, hO, hK, hsz, hL, l0⟩ := hrel
      have HL := Lib.hid hl
      have HR := Lib.hid hr
      have HO := Lib.hid hO
      have HK := Lib.hid hK
      have HV := Lib.hid hL
      have HW := Lib.hid l0
      have hgr := hK.1.lt
      clear hl hr hO hK hL l0
      by_cases hlt : k < m
      · obtain ⟨ab, ao, ea, hba, hc⟩ := IntK.at_ HO.out.1 (k := k) (by rw [HL.out]; exact hlt)
        injection ea with ea
        subst ea
        have hfr := HO.out.2 (by rw [HL.out]; omega) ab ao rfl k (by rw [HL.out]; exact hlt)
        have hkz : k < zs.length := by rw [HL.out]; exact hlt
        generalize zs[k] = y at *
        have v1 := HV.out.cell 1 (.slice (some ⟨ab, ao, none⟩) m m) rfl
        have hab' : ab ≠ b := hab
        have hk0 : (0 : Int) ≤ (k : Int) := by omega
        have hk1 : (k : Int) < (m : Int) := by omega
        go_wp2_with fail
        go_region_held3 (fun W => W.cell? ⟨b, 1, none⟩ = some (.slice (some ⟨ab, ao, none⟩) m m))
          (first | exact kv | exact kw | go_keep)
          ((go_at_call 89; refine (Calls.mono (small4 g A n c _ (HK.out.drew).1)) ?_; rintro e w2 ⟨x, hx, rfl, hk2⟩; (have m2 := hk2.2); (have hv2 : Lvar w2 b #[.int .i64 z, .slice (some ⟨ab, ao, none⟩) m m] := Lvar.keep (w := wr.drew) HV.out m2 (by omega)); (have kv := hv2.cell 1 (.slice (some ⟨ab, ao, none⟩) m m) rfl); (have hO2 : IntK.Own (w.heap.size + 1) w1.heap.size w2 (some ⟨ab, ao, none⟩) zs := IntK.Own.keep (w := wr.drew) HO.out m2 (by omega)); (have kc : w2.cell? ⟨ab, ao + k, none⟩ = some (.int .i64 y) := m2.cell (w := wr.drew) hc (by omega)); (have kf : w2.frozen? ⟨ab, ao + k, none⟩ = false := hO2.2 (by omega) ab ao rfl k hkz); (have kw := (hv2.other (p := ⟨ab, ao + k, none⟩) (Ne.symm hab') (.int .i64 x)).cell 1 (.slice (some ⟨ab, ao, none⟩) m m) rfl)))
        have hk3 : Kept w g A n c w2 := (HK.out.drew).trans hk2
        have S1 := Lib.hid (show IntK.Own (w.heap.size + 1) w1.heap.size (w2.setCell ⟨ab, ao + k, none⟩ (.int .i64 x)) (some ⟨ab, ao, none⟩) (zs.set k x) from ⟨LinI.store_iv hO2.1 (by rw [HL.out]; exact hlt) x, by rw [List.length_set]; exact hO2.2.set _ _⟩)
        have S2 := Lib.hid (hk3.set hgl (p := ⟨ab, ao + k, none⟩) (by show w.heap.size ≤ ab; omega) (.int .i64 x))
        have S3 := Lib.hid (hv2.other (p := ⟨ab, ao + k, none⟩) (Ne.symm hab') (.int .i64 x))
        have S4 := Lib.hid ((Lvar.keep (w := wr.drew) HW.out m2 (by omega)).other (p := ⟨ab, ao + k, none⟩) (show w.heap.size ≠ ab by omega) (.int .i64 x))
        have S5 := Lib.hid (show ∀ y ∈ zs.set k x, -3 ≤ y ∧ y ≤ 3 from fun y hy => by
          rcases List.mem_or_eq_of_mem_set hy with h | rfl
          · exact HR.out y h
          · exact hx)
        have hsz2 : w1.heap.size ≤ (w2.setCell ⟨ab, ao + k, none⟩ (.int .i64 x)).heap.size := by have h1 : wr.heap.size ≤ w2.heap.size := m2.size; simp; omega
        clear kv kw kc kf hc hfr v1 hv2 hO2 hk2 hk3 m2
        go_wp2
        go_roundw
        case rel => exact ⟨k + 1, zs.set k x, by omega, by go_num, by rw [List.length_set]; exact HL.out, S5.out, S1.out, S2.out, hsz2, S3.out, S4.out⟩
        case measure => simp [intOf]; omega
      · have v0 := HV.out.cell 0 (.int .i64 z) rfl
        have v1 := HV.out.cell 1 (.slice (some a) m m) rfl
        have r0 := HW.out.cell 0 (.int .i64 0) rfl
        have r1 := HW.out.cell 1 (.slice none 0 0) rfl
        have p0 := HW.out.frozen 0
        have p1 := HW.out.frozen 1
        have mm : Mod w.heap.size (w.heap.size + 1) wr ((wr.setCell ⟨w.heap.size, 0, none⟩ (.int .i64 z)).setCell ⟨w.heap.size, 1, none⟩ (.slice (some a) m m)) := (Mod.set _ (p := ⟨w.heap.size, 0, none⟩) (Nat.le_refl _) (Nat.lt_succ_self _) _).trans (Mod.set _ (p := ⟨w.heap.size, 1, none⟩) (Nat.le_refl _) (Nat.lt_succ_self _) _)
        have hO := HO.out.keep mm (Or.inr (Nat.le_refl _))
        have F1 := Lib.hid (show IntK.Own w.heap.size _ ((wr.setCell ⟨w.heap.size, 0, none⟩ (.int .i64 z)).setCell ⟨w.heap.size, 1, none⟩ (.slice (some a) m m)) (some a) zs from ⟨hO.1.wider (by omega) (Nat.le_trans hsz mm.size) (Nat.le_refl _), hO.2⟩)
        have F2 := Lib.hid ((HK.out.set hgl (p := ⟨w.heap.size, 0, none⟩) (Nat.le_refl _) (.int .i64 z)).set hgl (p := ⟨w.heap.size, 1, none⟩) (Nat.le_refl _) (.slice (some a) m m))
        have hmk : decide ((k : Int) < (m : Int)) = false := by simp; omega
        clear hO mm
        go_wp2
        refine bodyPost_ret (v := .agg #[.int .i64 z, .slice (some a) m m]) (by simp [results, Try.results70, go_sem, r0, r1]) rfl ⟨z, zs, some a, m, by rw [HL.out], ⟨hz, HL.out, rfl, HR.out⟩, by rw [HL.out]; exact Nat.le_refl _, F1.out, F2.out⟩
end Draw
end Go.Proofs.Ytmkelfjnjnjgbaa

/-
  The draws of the fourth chapter: a linear expression that may be out of range, or too long.
-/
namespace Go.Proofs.Ytmkelfjnjnjgbaa
open Go.RowKit
namespace Draw
open RowK

def I64 (x : Int) : Prop := -9223372036854775808 ≤ x ∧ x ≤ 9223372036854775807
def Any4 (z : Int) (zs : List Int) (_ : Nat) : Prop := I64 z ∧ zs.length ≤ 9 ∧ ∀ x ∈ zs, I64 x

/-- The result is laid into its block. -/
theorem some_fin {w wr : World} {g n c lo hi d : Nat} {A B : Option Addr} {z : Int} {zs : List Int} {P : Int → List Int → Nat → Prop} (hg : g < w.heap.size) (hK : Kept w g A n c wr) (hO : IntK.Own lo hi wr B zs) (h1 : w.heap.size + 1 ≤ lo) (h2 : hi ≤ wr.heap.size) (hP : P z zs d) (hd : zs.length ≤ d) :
    SomeLin w g A n c P (.returned (.agg #[.int .i64 z, .slice B zs.length d])) ((wr.setCell ⟨w.heap.size, 0, none⟩ (.int .i64 z)).setCell ⟨w.heap.size, 1, none⟩ (.slice B zs.length d)) := by
  have mm : Mod w.heap.size (w.heap.size + 1) wr ((wr.setCell ⟨w.heap.size, 0, none⟩ (.int .i64 z)).setCell ⟨w.heap.size, 1, none⟩ (.slice B zs.length d)) := (Mod.set _ (p := ⟨w.heap.size, 0, none⟩) (Nat.le_refl _) (Nat.lt_succ_self _) _).trans (Mod.set _ (p := ⟨w.heap.size, 1, none⟩) (Nat.le_refl _) (Nat.lt_succ_self _) _)
  have hO' := hO.keep mm (Or.inr h1)
  exact ⟨z, zs, B, d, rfl, hP, hd, ⟨hO'.1.wider (by omega) (Nat.le_trans h2 mm.size) (Nat.le_refl _), hO'.2⟩, (hK.set hg (p := ⟨w.heap.size, 0, none⟩) (Nat.le_refl _) _).set hg (p := ⟨w.heap.size, 1, none⟩) (Nat.le_refl _) _⟩

theorem rows_at {lo hi : Nat} {w : World} {B : Option Addr} {vs : List Value} {b : Addr} (h : Row lo hi w B vs) (e : B = some b) (j : Nat) (u : Value) (hu : vs[j]? = some u) : w.cell? (b.add j) = some u := by
  obtain ⟨b', o', e', _, hc⟩ := h (fun e => by rw [e] at hu; simp at hu)
  rw [e] at e'
  injection e' with e'
  subst e'
  rw [show (⟨b', o', none⟩ : Addr).add j = ⟨b', o' + j, none⟩ by unfold Addr.add; split <;> simp_all]
  exact hc j u hu
theorem Kept.below {w w' w2 : World} {g n c : Nat} {A : Option Addr} (h : Kept w g A n c w') (hb : Below w'.heap.size w' w2) : Kept w g A n c w2 := ⟨h.1.keep hb, h.2.trans (Mod.of_below hb)⟩

set_option maxHeartbeats 2000000 in
set_option maxRecDepth 100000 in
theorem bent4 (g : Nat) (A : Option Addr) (n c : Nat) (w : World) (hC : Cur w g A n c) :
    Calls Try.prog 68 #[.pointer (some ⟨g, 0, none⟩)] w (SomeLin w g A n c Any4) := by
  have HC := Lib.hid (kept_refl hC)
  have hgl := hC.lt
  go_enter Try.func68, Try.ntmps68
  go_wp2_with fail
  refine (below g A n c 4 (by omega) _ (HC.out.alloc _).1).mono ?_
  rintro e w1 ⟨x, hx0, hx1, _, rfl, hL⟩
  have hx4 := hx1 (by omega)
  obtain ⟨m, rfl⟩ := Int.eq_ofNat_of_zero_le hx0
  have m1 := hL.kept.2
  have K1 := Lib.hid ((HC.out.alloc _).trans hL.kept)
  have R1 := Lib.hid ((Lvar.new w #[Value.int IntKind.i64 0, Value.slice none 0 0] 29).keep m1 (by omega))
  have hs1 : w.heap.size + 1 ≤ w1.heap.size := R1.out.lt
  clear hL m1 hx1
  go_wp2_with fail
  refine (draw4 g A n c m (by omega) _ K1.out.1).mono ?_
  rintro e w2 ⟨z, zs, B, d, rfl, ⟨hz, hl, hdm, hr⟩, hd, hO, hK⟩
  have m2 := hK.2
  have K2 := Lib.hid (K1.out.trans hK)
  have R2 := Lib.hid (R1.out.keep m2 (by omega))
  have O2 := Lib.hid hO
  have hs2 := m2.size
  have HL := Lib.hid hl
  have HR := Lib.hid hr
  have HD := Lib.hid hdm
  clear hO hK m2 hl hr hdm K1 R1
  go_wp2_with fail
  refine (below g A n c 10 (by omega) _ (K2.out.alloc _).1).mono ?_
  rintro e w3 ⟨y, hy0, hy1, _, rfl, hL⟩
  have m3 := hL.kept.2
  have hs3 : w2.heap.size + 1 ≤ w3.heap.size := by have := m3.size; simpa using this
  have K3 := Lib.hid ((K2.out.alloc _).trans hL.kept)
  have V3 := Lib.hid ((Lvar.new w2 #[Value.int IntKind.i64 z, Value.slice B zs.length d] 29).keep m3 (by omega))
  have R3 := Lib.hid ((R2.out.alloc _).keep m3 (by omega))
  have O3 := Lib.hid ((O2.out.below ((Below.refl _ _).alloc (Nat.le_refl _) _)).keep m3 (by omega))
  clear hL m3 hy1 K2 R2 O2
  have v30 := V3.out.cell 0 _ rfl
  have v31 := V3.out.cell 1 _ rfl
  have f30 := V3.out.frozen 0
  have f31 := V3.out.frozen 1
  have r30 := R3.out.cell 0 _ rfl
  have r31 := R3.out.cell 1 _ rfl
  have q30 := R3.out.frozen 0
  have q31 := R3.out.frozen 1
  have v3l := V3.out.lt
  have r3l := R3.out.lt
  by_cases y0 : y = 0
  · subst y0
    go_wp2_with fail
    refine (any3 g A n c _ K3.out.1).mono ?_
    rintro e w4 ⟨t, ht, rfl, hL⟩
    have ht := threes_range t ht
    have m4 := hL.kept.2
    have K4 := Lib.hid (K3.out.trans hL.kept)
    have V4 := Lib.hid (V3.out.keep m4 (by omega))
    have R4 := Lib.hid (R3.out.keep m4 (by omega))
    have O4 := Lib.hid (O3.out.keep m4 (by omega))
    have hs4 := m4.size
    clear hL m4 v30 v31 f30 f31 r30 r31 q30 q31
    have v40 := V4.out.cell 0 _ rfl
    have v41 := V4.out.cell 1 _ rfl
    have f40 := V4.out.frozen 0
    have r40 := R4.out.cell 0 _ rfl
    have r41 := R4.out.cell 1 _ rfl
    have q40 := R4.out.frozen 0
    have q41 := R4.out.frozen 1
    have hne := show w2.heap.size ≠ w.heap.size by omega
    have hne' := show w.heap.size ≠ w2.heap.size by omega
    have mv : Mod w2.heap.size (w2.heap.size + 1) w4 (w4.setCell ⟨w2.heap.size, 0, none⟩ (.int .i64 t)) := Mod.set w4 (p := ⟨w2.heap.size, 0, none⟩) (Nat.le_refl _) (Nat.lt_succ_self _) _
    have F := Lib.hid (some_fin (P := Any4) (z := t) hgl (K4.out.set hgl (p := ⟨w2.heap.size, 0, none⟩) (by show w.heap.size ≤ w2.heap.size; omega) (.int .i64 t)) (O4.out.keep mv (Or.inl (Nat.le_refl _))) (by omega) (by simp; omega) ⟨ht, by rw [HL.out]; omega, fun x hx => ⟨by have := HR.out x hx; omega, by have := HR.out x hx; omega⟩⟩ hd)
    clear mv
    go_wp2
    exact bodyPost_ret (v := .agg #[.int .i64 t, .slice B zs.length d]) (by simp [results, Try.results68, go_sem, r40, r41]) rfl F.out
  · have y0' : (y == 0) = false := by simpa using y0
    by_cases y1 : y = 1
    · subst y1
      obtain ⟨i0, hi0, hz0, hz1, hz2⟩ := info_parts IntK.intInfo
      have HI := Lib.hid hi0
      have HZ0 := Lib.hid hz0
      have HZ1 := Lib.hid hz1
      have HZ2 := Lib.hid hz2
      have hu := Lib.hid Try.underlying27
      have hnone : B = none → zs.length = 0 ∧ d = 0 := fun e => by
        have h0 : zs.length = 0 := by
          rcases Nat.eq_zero_or_pos zs.length with h | h
          · exact h
          · obtain ⟨b, o, e2, _⟩ := IntK.at_ O3.out.1 h
            rw [e] at e2; cases e2
        exact ⟨h0, by rw [HD.out, ← HL.out, h0]⟩
      have HN := Lib.hid hnone
      have hfull : d < zs.length + 1 := by rw [HD.out, HL.out]; omega
      have hl9 : zs.length ≤ 3 := by rw [HL.out]; omega
      clear hi0 hz0 hz1 hz2 hnone y0
      go_wp2_with fail
      go_region_law (first
        | (refine step_append_grows rfl _ _ _ rfl 3 i0 (.int .i64 0) 1 8 hu.out HI.out HZ0.out HZ1.out HZ2.out rfl (by decide) B zs.length d (IntK.iv zs) rfl HN.out (by simp [IntK.iv]) (fun b e j u hu => rows_at (O4.below ((Below.refl _ _).alloc (Nat.le_refl _) _)).1 e j u hu) ⟨w4.heap.size, 0, none⟩ 1 1 [.int .i64 t] rfl rfl (World.news_of_block (cs := #[.int .i64 t]) (heap_alloc_new w4 _)) (by simp [Value.oneCell']) (by omega) (by unfold maxLen; omega) (by omega) ?_; intro v5 w5 hown5 hgrow5; (obtain ⟨A5, c5, rfl, r5, f5, hc5, _⟩ := of_own hown5); (have b5 : Below (w4.alloc (Obj.cells #[.int .i64 t] 3)).heap.size (w4.alloc (Obj.cells #[.int .i64 t] 3)) w5 := ⟨hgrow5.os, hgrow5.tape, hgrow5.output, hgrow5.size, fun i hi => hgrow5.block i hi (by simp)⟩); (have V5 := (V4.alloc (Obj.cells #[.int .i64 t] 3)).below b5); (have R5 := (R4.alloc (Obj.cells #[.int .i64 t] 3)).below b5); (have K5 := (K4.alloc (Obj.cells #[.int .i64 t] 3)).below b5); (have v50 := V5.cell 0 _ rfl); (have v51 := V5.cell 1 _ rfl); (have p51 := V5.frozen 1); (have r50 := R5.cell 0 _ rfl); (have r51 := R5.cell 1 _ rfl); (have q50 := R5.frozen 0); (have q51 := R5.frozen 1))
        | (go_simp; go_at_call 88; refine (Calls.mono (any3 g A n c _ (K3.out.drew).1)) ?_; rintro e w4 ⟨t, ht, rfl, hL⟩; (have ht := threes_range t ht); (have m4 := hL.kept.2); (have V4 : Lvar w4 w2.heap.size #[Value.int IntKind.i64 z, Value.slice B zs.length d] := Lvar.keep (w := w3.drew) V3.out m4 (by omega)); (have R4 : Lvar w4 w.heap.size #[Value.int IntKind.i64 0, Value.slice none 0 0] := Lvar.keep (w := w3.drew) R3.out m4 (by omega)); (have O4 : IntK.Own w1.heap.size w2.heap.size w4 B zs := IntK.Own.keep (w := w3.drew) O3.out m4 (by omega)); (have K4 := (K3.out.drew).trans hL.kept); (have v41 := V4.cell 1 _ rfl); (have v4l := V4.lt)))
      all_goals
        have e5 : (zs ++ [t]).length = zs.length + 1 := by simp
        have hs4 : w3.heap.size ≤ w4.heap.size := m4.size
        have hs5 : w4.heap.size + 1 ≤ w5.heap.size := by have := b5.size; simpa using this
        have O5 : IntK.Own (w4.heap.size + 1) w5.heap.size w5 A5 (zs ++ [t]) := ⟨by simpa [IntK.iv] using r5, by simpa [IntK.iv] using f5⟩
        have mv : Mod w2.heap.size (w2.heap.size + 1) w5 (w5.setCell ⟨w2.heap.size, 1, none⟩ (.slice A5 (zs.length + 1) c5)) := Mod.set w5 (p := ⟨w2.heap.size, 1, none⟩) (Nat.le_refl _) (Nat.lt_succ_self _) _
        have F := some_fin (P := Any4) (z := z) (d := c5) hgl (K5.set hgl (p := ⟨w2.heap.size, 1, none⟩) (by show w.heap.size ≤ w2.heap.size; omega) (.slice A5 (zs.length + 1) c5)) (O5.keep mv (Or.inr (by omega))) (by omega) (by simp) ⟨⟨by omega, by omega⟩, by rw [e5]; omega, fun x hx => by
          rcases List.mem_append.1 hx with h | h
          · have := HR.out x h; exact ⟨by omega, by omega⟩
          · rw [List.mem_singleton.1 h]; exact ht⟩ (by rw [e5]; exact hc5)
        rw [e5] at F
        have HF := Lib.hid F
        have hne := show w2.heap.size ≠ w.heap.size by omega
        have hne' := show w.heap.size ≠ w2.heap.size by omega
        clear F mv O5 e5 hown5 hgrow5 r5 f5 b5
        go_wp2
        exact bodyPost_ret (v := .agg #[.int .i64 z, .slice A5 (zs.length + 1) c5]) (by simp [results, Try.results68, go_sem, r50, r51]) rfl HF.out
    · have y1' : (y == 1) = false := by simpa using y1
      by_cases y2 : y = 2
      · subst y2
        have hmk9 : ∀ u : World, (Instr.makeSlice 27 (.int .i64 9) (.int .i64 9)).run Try.prog u = .ok (.slice (some ⟨u.heap.size, 0, none⟩) 9 9) (u.alloc (.cells (madeCells #[.int .i64 0] 9) 3)) := fun u => by simpa using IntK.run_mk 9 (by omega) u
        clear y0 y1
        go_wp2
        have L9 : Lvar ((((w3.setCell { block := w2.heap.size, off := 1 } (Value.slice (some { block := w3.heap.size, off := 0 }) 9 9)).setCell { block := w.heap.size, off := 0 } (Value.int IntKind.i64 z)).setCell { block := w.heap.size, off := 1 } (Value.slice (some { block := w3.heap.size, off := 0 }) 9 9)).alloc (Obj.cells (madeCells #[Value.int IntKind.i64 0] 9) 3)) w3.heap.size (madeCells #[Value.int IntKind.i64 0] 9) := by
          have := Lvar.new (((w3.setCell { block := w2.heap.size, off := 1 } (Value.slice (some { block := w3.heap.size, off := 0 }) 9 9)).setCell { block := w.heap.size, off := 0 } (Value.int IntKind.i64 z)).setCell { block := w.heap.size, off := 1 } (Value.slice (some { block := w3.heap.size, off := 0 }) 9 9)) (madeCells #[Value.int IntKind.i64 0] 9) 3
          simpa using this
        have hr9 := L9.row
        rw [toList_madeCells_one, size_madeCells] at hr9
        have hK9 := (((K3.out.set hgl (p := ⟨w2.heap.size, 1, none⟩) (by show w.heap.size ≤ w2.heap.size; omega) (Value.slice (some { block := w3.heap.size, off := 0 }) 9 9)).set hgl (p := ⟨w.heap.size, 0, none⟩) (Nat.le_refl _) (Value.int IntKind.i64 z)).set hgl (p := ⟨w.heap.size, 1, none⟩) (Nat.le_refl _) (Value.slice (some { block := w3.heap.size, off := 0 }) 9 9)).alloc (Obj.cells (madeCells #[Value.int IntKind.i64 0] 9) 3)
        refine bodyPost_ret (v := .agg #[.int .i64 z, .slice (some ⟨w3.heap.size, 0, none⟩) 9 9]) (by simp [results, Try.results68, go_sem, r30, r31, r3l]) rfl ⟨z, List.replicate 9 0, some ⟨w3.heap.size, 0, none⟩, 9, by simp, ⟨⟨by omega, by omega⟩, by simp, fun x hx => by rw [List.eq_of_mem_replicate hx]; exact ⟨by omega, by omega⟩⟩, by simp, ⟨?_, ?_⟩, hK9⟩
        · rw [show IntK.iv (List.replicate 9 0) = List.replicate 9 (.int .i64 0) by simp [IntK.iv]]
          exact hr9.1.wider (by omega) (by simp) (Nat.le_refl _)
        · rw [List.length_replicate]; exact hr9.2
      · have y2' : (y == 2) = false := by simpa using y2
        have F := Lib.hid (some_fin (P := Any4) (z := z) hgl K3.out O3.out (by omega) (by omega) ⟨⟨by omega, by omega⟩, by rw [HL.out]; omega, fun x hx => ⟨by have := HR.out x hx; omega, by have := HR.out x hx; omega⟩⟩ hd)
        clear y0 y1 y2
        go_wp2
        exact bodyPost_ret (v := .agg #[.int .i64 z, .slice B zs.length d]) (by simp [results, Try.results68, go_sem, r30, r31]) rfl F.out
end Draw
end Go.Proofs.Ytmkelfjnjnjgbaa
