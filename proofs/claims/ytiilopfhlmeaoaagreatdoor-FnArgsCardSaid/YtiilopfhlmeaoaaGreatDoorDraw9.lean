import Derived.Test.YtiilopfhlmeaoaaGreatDoorDraw5
import Derived.Test.YtiilopfhlmeaoaaGreatDoorDraw6
import Derived.Test.YtiilopfhlmeaoaaGreatDoorArgParse
import Derived.Deep.RegionHeld3
import Derived.Deep.CutBlock
/-
  The draws of the ninth chapter: sums and arguments.
-/
namespace Go.Proofs.YtiilopfhlmeaoaaGreatDoor
open Go.RowKit
namespace Mem
open RowK ArgM TextM CutI
theorem own_same {w w' : World} {base size n : Nat} {e : TypeId} {v : Value} {xs : List Value} (h : w.ownsRow base e size v n xs) (hk : ∀ b, v.ownBlock = some b → w'.heap[b]? = w.heap[b]?) : w'.ownsRow base e size v n xs := by
  refine ⟨h.1, ?_⟩
  rcases h.2 with h2 | ⟨g, cap, cur, rfl, h3, h4, h5⟩
  · exact Or.inl h2
  · exact Or.inr ⟨g, cap, cur, rfl, h3, by rw [hk g rfl]; exact h4, h5⟩
theorem own_mono {w : World} {base base' size n : Nat} {e : TypeId} {v : Value} {xs : List Value} (h : w.ownsRow base e size v n xs) (hb : base' ≤ base) : w.ownsRow base' e size v n xs := by
  refine ⟨h.1, ?_⟩
  rcases h.2 with h2 | ⟨g, cap, cur, h2, h3, h4⟩
  · exact Or.inl h2
  · exact Or.inr ⟨g, cap, cur, h2, Nat.le_trans hb h3, h4⟩
/-- A sum whose terms lie in a row of its own. -/
def osum : Rep Sm where
  n := 2
  rep _ w fp cs x := ∃ v, cs = [.int .i64 x.1, v] ∧ w.ownsRow 0 60 2 v x.2.length (tcells x.2) ∧ fp = v.ownBlock.toList
  len h := by obtain ⟨v, rfl, _⟩ := h; rfl
  lt h b hb := by obtain ⟨v, rfl, h2, rfl⟩ := h; exact (h2.lt b (by simpa using hb)).2
  same h _ hk := by obtain ⟨v, rfl, h2, rfl⟩ := h; exact ⟨v, rfl, own_same h2 (fun b hb => hk b (by simp [hb])), rfl⟩
  loose h := h
theorem osum_plain {w : World} {q : Bool} {fp : List Nat} {cs : List Value} {x : Sm} (h : osum.rep q w fp cs x) : ∃ fp', Mem.sum.rep true w fp' cs x ∧ fp'.Nodup ∧ ∀ b ∈ fp', b ∈ fp := by
  obtain ⟨v, rfl, h2, rfl⟩ := h
  obtain ⟨z, ts⟩ := x
  have hO : Owned term 60 (fun b => v.ownBlock = some b) w v ts := by
    refine ⟨ts.map fun t => ([], [.int .i64 t.1, .string t.2], t), ?_, ?_, ?_, ?_, fun g hg => hg, ?_⟩
    · simp [vals, Function.comp_def]
    · have e1 : cells (ts.map fun t => (([] : List Nat), [Value.int .i64 t.1, .string t.2], t)) = tcells ts := by simp [cells, tcells, List.flatMap_map]
      rw [e1]
      exact h2
    · intro y hy
      obtain ⟨t, _, rfl⟩ := List.mem_map.1 hy
      exact ⟨[], [], _, _, rfl, rfl, ⟨rfl, rfl⟩, rfl, rfl⟩
    · have e2 : fps (ts.map fun t => (([] : List Nat), [Value.int .i64 t.1, .string t.2], t)) = [] := by simp [fps, List.flatMap_map]
      rw [e2]
      exact List.nodup_nil
    · intro b hb
      have e2 : fps (ts.map fun t => (([] : List Nat), [Value.int .i64 t.1, .string t.2], t)) = [] := by simp [fps, List.flatMap_map]
      rw [e2] at hb
      cases hb
  obtain ⟨A, c, fp, rfl, hr, hn, hb⟩ := hO.rep (by decide)
  exact ⟨fp, ⟨[], fp, _, _, rfl, rfl, ⟨rfl, rfl⟩, hr⟩, hn, fun b hb' => by simpa using hb b hb'⟩
theorem owned_plain {e : TypeId} {ok : Nat → Prop} {w : World} {v : Value} {xs : List Sm} (h : Owned osum e ok w v xs) : Owned Mem.sum e ok w v xs := by
  obtain ⟨es, h1, h2, h3, h4, h5, h6⟩ := h
  have key : ∀ es : List (El Sm), (∀ x ∈ es, osum.rep true w x.1 x.2.1 x.2.2) → (fps es).Nodup → ∃ fs : List (El Sm), vals fs = vals es ∧ cells fs = cells es ∧ (∀ x ∈ fs, Mem.sum.rep true w x.1 x.2.1 x.2.2) ∧ (fps fs).Nodup ∧ ∀ b ∈ fps fs, b ∈ fps es := by
    intro es
    induction es with
    | nil => intro _ _; exact ⟨[], rfl, rfl, (fun _ h => by cases h), List.nodup_nil, (fun _ h => by cases h)⟩
    | cons x es ih =>
      intro hr hn
      have hf : fps (x :: es) = x.1 ++ fps es := by simp [fps]
      rw [hf] at hn
      obtain ⟨n1, n2, n3⟩ := List.nodup_append.1 hn
      obtain ⟨fs, k1, k2, k3, k4, k5⟩ := ih (fun y hy => hr y (List.mem_cons_of_mem _ hy)) n2
      obtain ⟨fp, q1, q2, q3⟩ := osum_plain (hr x List.mem_cons_self)
      have hf2 : fps ((fp, x.2.1, x.2.2) :: fs) = fp ++ fps fs := by simp [fps]
      refine ⟨(fp, x.2.1, x.2.2) :: fs, ?_, ?_, ?_, ?_, ?_⟩
      · simp only [vals, List.map_cons] at k1 ⊢
        rw [k1]
      · simp only [cells, List.flatMap_cons] at k2 ⊢
        rw [k2]
      · intro y hy
        rcases List.mem_cons.1 hy with rfl | hy
        · exact q1
        · exact k3 y hy
      · rw [hf2]
        exact List.nodup_append.2 ⟨q2, k4, fun a ha b hb e => n3 a (q3 a ha) b (k5 b hb) e⟩
      · intro b hb
        rw [hf2] at hb
        rw [hf]
        rcases List.mem_append.1 hb with hb | hb
        · exact List.mem_append_left _ (q3 b hb)
        · exact List.mem_append_right _ (k5 b hb)
  obtain ⟨fs, k1, k2, k3, k4, k5⟩ := key es h3 h4
  exact ⟨fs, by rw [k1, h1], by rw [k2]; exact h2, k3, k4, h5, fun b hb => h6 b (k5 b hb)⟩
end Mem
namespace Draw
open RowK Mem LinM ArgM TextM CutI

/-- A small sum whose terms lie in new memory. -/
def SomeSum (m : Nat) (w : World) (g : Nat) (A : Option Addr) (n c : Nat) (e : Ending) (w' : World) : Prop :=
  ∃ (z : Int) (v : Value) (xs : List TItem), e = .returned (.agg #[.int .i64 z, v]) ∧ xs.length ≤ m ∧ (∀ t ∈ xs, t.2.size ≤ 2) ∧ w'.ownsRow w.heap.size 60 2 v xs.length (tcells xs) ∧ Kept w g A n c w'
def consts9 : List Int := [0, -1, -1, 1, 2, -2]
def coeffs9 : List Int := [1, 1, 1, 1, -1, 2]
/-- The end of a sum's drawing: the result's variable is the block w.heap.size. -/
theorem sum_fin {w wr : World} {g n c m : Nat} {A : Option Addr} {z : Int} {v : Value} {xs : List TItem} (hg : g < w.heap.size) (hK : Kept w g A n c wr) (hO : wr.ownsRow (w.heap.size + 1) 60 2 v xs.length (tcells xs)) (hl : xs.length ≤ m) (hs : ∀ t ∈ xs, t.2.size ≤ 2) :
    SomeSum m w g A n c (.returned (.agg #[.int .i64 z, v])) ((wr.setCell ⟨w.heap.size, 0, none⟩ (.int .i64 z)).setCell ⟨w.heap.size, 1, none⟩ v) :=
  ⟨z, v, xs, rfl, hl, hs, own_mono (ownsRow_setCell_below (ownsRow_setCell_below hO (a := ⟨w.heap.size, 0, none⟩) (Nat.lt_succ_self _) _) (a := ⟨w.heap.size, 1, none⟩) (Nat.lt_succ_self _) _) (Nat.le_succ _), (hK.set hg (p := ⟨w.heap.size, 0, none⟩) (Nat.le_refl _) _).set hg (p := ⟨w.heap.size, 1, none⟩) (Nat.le_refl _) _⟩

set_option maxHeartbeats 2000000 in
set_option maxRecDepth 100000 in
theorem sum9 (g : Nat) (A : Option Addr) (n c : Nat) (B : Option Addr) (k d : Nat) (ls : List ByteArray) (hk : ls.length = k) (hne : ls ≠ []) (hmax : k ≤ 1000) (hm : ∀ x ∈ ls, x.size ≤ 2) (w : World) (hC : Cur w g A n c) (hB : StrK.SRow w B ls) (hg : ∀ b, B = some b → b.block ≠ g) :
    Calls Tryz.prog 54 #[.pointer (some ⟨g, 0, none⟩), .slice B k d] w (SomeSum 1 w g A n c) := by
  have hgl := hC.lt
  have hk0 : 0 < k := by rw [← hk]; exact List.length_pos_iff.2 hne
  have hk1 : decide ((0 : Int) < (k : Int)) = true := decide_eq_true (by omega)
  have K1 := Lib.hid (((kept_refl hC).alloc (Obj.cells #[Value.int IntKind.i64 0, Value.slice none 0 0] 50)).alloc (.cells (consts9.map (Value.int .i64)).toArray 3))
  have L1 := Lib.hid ((Lvar.new w #[Value.int IntKind.i64 0, Value.slice none 0 0] 50).alloc (.cells (consts9.map (Value.int .i64)).toArray 3))
  have R1 := irow_new (w.alloc (Obj.cells #[Value.int IntKind.i64 0, Value.slice none 0 0] 50)) consts9 3
  rw [World.size_alloc] at R1
  have R1 := Lib.hid R1
  have HB := Lib.hid hB
  have HG := Lib.hid hg
  have HM := Lib.hid hm
  clear hB hg hm
  go_enter Tryz.func54, Tryz.ntmps54
  go_wp2_with fail
  refine (pickInt g A n c (some ⟨w.heap.size + 1, 0, none⟩) 6 6 consts9 rfl (by decide) (by omega) _ K1.out.1 R1.out (fun b e => by injection e with e; subst e; show w.heap.size + 1 ≠ g; omega)).mono ?_
  rintro e w1 ⟨z, _, rfl, hL⟩
  have hs1 := hL.kept.2.size
  simp only [World.size_alloc] at hs1
  have K3 := Lib.hid ((K1.out.trans hL.kept).alloc (Obj.cells #[Value.int IntKind.i64 z, Value.slice none 0 0] 50))
  have L3 := Lib.hid ((L1.out.keep hL.kept.2 (by omega)).alloc (Obj.cells #[Value.int IntKind.i64 z, Value.slice none 0 0] 50))
  have V3 := Lib.hid (Lvar.new w1 #[Value.int IntKind.i64 z, Value.slice none 0 0] 50)
  have hs3 : (w1.alloc (Obj.cells #[Value.int IntKind.i64 z, Value.slice none 0 0] 50)).heap.size = w1.heap.size + 1 := by simp
  have HS3 := Lib.hid hs3
  clear hL K1 L1 R1 hs3
  go_upto_region 2 with fail
  generalize w1.alloc (Obj.cells #[Value.int IntKind.i64 z, Value.slice none 0 0] 50) = w3 at *
  generalize w1.heap.size = h at *
  go_wp2_with fail
  refine (once g A n c 6 (by omega) _ K3.out.1).mono ?_
  rintro e w4 ⟨q, rfl, hL⟩
  have K4 := Lib.hid (K3.out.trans hL.kept)
  have L4 := Lib.hid (L3.out.keep hL.kept.2 (by omega))
  have V4 := Lib.hid (V3.out.keep hL.kept.2 (by omega))
  have hs4 := hL.kept.2.size
  have hs3 := HS3.out
  clear hL K3 L3 V3
  cases q with
  | true =>
    have l0 := L4.out.cell 0 (.int .i64 0) rfl
    have l1 := L4.out.cell 1 (.slice none 0 0) rfl
    have p0 := L4.out.frozen 0
    have p1 := L4.out.frozen 1
    have v0 := V4.out.cell 0 (.int .i64 z) rfl
    have v1 := V4.out.cell 1 (.slice none 0 0) rfl
    have F := Lib.hid (sum_fin (m := 1) (z := z) (v := .slice none 0 0) (xs := []) hgl K4.out (World.ownsRow_nil _ _ _ _) (by simp) (fun t h => by cases h))
    go_wp2
    exact bodyPost_ret (v := .agg #[.int .i64 z, .slice none 0 0]) (by simp [results, Tryz.results54, go_sem, l0, l1]) rfl F.out
  | false =>
    have K5 := Lib.hid (K4.out.alloc (.cells (coeffs9.map (Value.int .i64)).toArray 3))
    have R5 := Lib.hid (irow_new w4 coeffs9 3)
    go_wp2_with fail
    refine (pickInt g A n c (some ⟨w4.heap.size, 0, none⟩) 6 6 coeffs9 rfl (by decide) (by omega) _ K5.out.1 R5.out (fun b e => by injection e with e; subst e; show w4.heap.size ≠ g; omega)).mono ?_
    rintro e w5 ⟨x, _, rfl, hL⟩
    have K6 := Lib.hid (K5.out.trans hL.kept)
    have hs5 := hL.kept.2.size
    simp only [World.size_alloc] at hs5
    have L6 := Lib.hid ((L4.out.alloc (.cells (coeffs9.map (Value.int .i64)).toArray 3)).keep hL.kept.2 (by omega))
    have V6 := Lib.hid ((V4.out.alloc (.cells (coeffs9.map (Value.int .i64)).toArray 3)).keep hL.kept.2 (by omega))
    have RB := Lib.hid (srow_mod HB.out K6.out.2 (fun a e => by have := HG.out a e; omega))
    clear hL K4 L4 V4 K5 R5
    go_wp2_with fail
    refine (pick g A n c B k d ls hk hne (by omega) _ K6.out.1 RB.out HG.out).mono ?_
    rintro e w6 ⟨t, ht, rfl, hL⟩
    have ht2 := HM.out t ht
    have K7 := Lib.hid ((K6.out.trans hL.kept).alloc (Obj.cells #[Value.int IntKind.i64 x, Value.string t] 60))
    have hs6 := hL.kept.2.size
    have L7 := Lib.hid ((L6.out.keep hL.kept.2 (by omega)).alloc (Obj.cells #[Value.int IntKind.i64 x, Value.string t] 60))
    have V7 := Lib.hid ((V6.out.keep hL.kept.2 (by omega)).alloc (Obj.cells #[Value.int IntKind.i64 x, Value.string t] 60))
    have O7 := Lib.hid (World.ownsRow_lit (base := h + 1) (e := 60) (size := 2) w6 #[Value.int IntKind.i64 x, Value.string t] 1 (by omega) (by decide) rfl)
    have V6' := Lib.hid (V6.out.keep hL.kept.2 (by omega))
    clear hL K6 V6 L6 RB ht
    have v0 := V6'.out.cell 0 (.int .i64 z) rfl
    have v1 := V6'.out.cell 1 (.slice none 0 0) rfl
    have q0 := V6'.out.frozen 0
    have q1 := V6'.out.frozen 1
    have u0 := V7.out.cell 0 (.int .i64 z) rfl
    have u1 := V7.out.cell 1 (.slice none 0 0) rfl
    have r1 := V7.out.frozen 1
    have VV := V7.out.set 1 (.slice (some ⟨w6.heap.size, 0, none⟩) 1 1)
    have vv0 := VV.cell 0 (.int .i64 z) rfl
    have vv1 := VV.cell 1 (.slice (some ⟨w6.heap.size, 0, none⟩) 1 1) rfl
    have LL := L7.out.other (p := ⟨h, 1, none⟩) (by show w.heap.size ≠ h; omega) (.slice (some ⟨w6.heap.size, 0, none⟩) 1 1)
    have l0 := LL.cell 0 (.int .i64 0) rfl
    have l1 := LL.cell 1 (.slice none 0 0) rfl
    have p0 := LL.frozen 0
    have p1 := LL.frozen 1
    have F := Lib.hid (sum_fin (m := 1) (z := z) (v := .slice (some ⟨w6.heap.size, 0, none⟩) 1 1) (xs := [(x, t)]) hgl (K7.out.set hgl (p := ⟨h, 1, none⟩) (by show w.heap.size ≤ h; omega) (.slice (some ⟨w6.heap.size, 0, none⟩) 1 1)) (own_mono (ownsRow_setCell_below O7.out (a := ⟨h, 1, none⟩) (Nat.lt_succ_self _) _) (by omega)) (by simp) (fun y hy => by rw [List.mem_singleton.1 hy]; exact ht2))
    clear VV LL
    go_wp2
    exact bodyPost_ret (v := .agg #[.int .i64 z, .slice (some ⟨w6.heap.size, 0, none⟩) 1 1]) (by simp [results, Tryz.results54, go_sem, l0, l1]) rfl F.out

/-- A small argument. -/
def ArgIs (m j : Nat) (hs : List Sm) (b : ByteArray) : Prop := hs.length ≤ m ∧ (∀ h ∈ hs, h.2.length ≤ j ∧ ∀ t ∈ h.2, t.2.size ≤ 2) ∧ b.size ≤ 2
def SomeArg (m j : Nat) (w : World) (g : Nat) (A : Option Addr) (n c : Nat) (e : Ending) (w' : World) : Prop :=
  ∃ (p : Bool) (v : Value) (b : ByteArray) (hs : List Sm), e = .returned (.agg #[.bool p, v, .string b]) ∧ ArgIs m j hs b ∧ Owned osum 50 (fun i => w.heap.size ≤ i) w' v hs ∧ Kept w g A n c w'
theorem own_one {w1 : World} {lo : Nat} {z : Int} {v : Value} {xs : List TItem} (hO : w1.ownsRow lo 60 2 v xs.length (tcells xs)) (hlo : lo ≤ w1.heap.size) :
    Owned osum 50 (fun i => lo ≤ i) (w1.alloc (Obj.cells #[.int .i64 z, v] 50)) (.slice (some ⟨w1.heap.size, 0, none⟩) 1 1) [(z, xs)] := by
  refine ⟨[(v.ownBlock.toList, [.int .i64 z, v], (z, xs))], rfl, ⟨rfl, Or.inr ⟨w1.heap.size, _, #[.int .i64 z, v], rfl, Nat.zero_le _, heap_alloc_new _ _, Nat.le_refl _, by unfold maxLen; omega, rfl, rfl⟩⟩, fun y hy => ?_, ?_, fun g e => ?_, fun b hb => ?_⟩
  · rw [List.mem_singleton.1 hy]
    exact ⟨v, rfl, own_mono (hO.alloc _) (Nat.zero_le _), rfl⟩
  · cases v.ownBlock <;> simp [fps]
  · obtain rfl : w1.heap.size = g := Option.some.inj e
    exact hlo
  · have hb2 : v.ownBlock = some b := by simpa [fps] using hb
    refine ⟨(hO.lt b hb2).1, fun e => ?_⟩
    obtain rfl : w1.heap.size = b := Option.some.inj e
    have := (hO.lt _ hb2).2
    omega
/-- The end of an argument's drawing: the result's variable is the block w.heap.size. -/
theorem arg_fin {w wr : World} {g n c m j : Nat} {A : Option Addr} {p : Bool} {v : Value} {b : ByteArray} {hs : List Sm} (hg : g < w.heap.size) (hK : Kept w g A n c wr) (hO : Owned osum 50 (fun i => w.heap.size + 1 ≤ i) wr v hs) (hA : ArgIs m j hs b) :
    SomeArg m j w g A n c (.returned (.agg #[.bool p, v, .string b])) (((wr.setCell ⟨w.heap.size, 0, none⟩ (.bool p)).setCell ⟨w.heap.size, 1, none⟩ v).setCell ⟨w.heap.size, 2, none⟩ (.string b)) :=
  ⟨p, v, b, hs, rfl, hA, (((hO.set (b := w.heap.size) (by show ¬ (w.heap.size + 1 ≤ w.heap.size); omega) 0 (.bool p)).set (b := w.heap.size) (by show ¬ (w.heap.size + 1 ≤ w.heap.size); omega) 1 v).set (b := w.heap.size) (by show ¬ (w.heap.size + 1 ≤ w.heap.size); omega) 2 (.string b)).to (fun b _ (h : w.heap.size + 1 ≤ b) => by omega),
    ((hK.set hg (p := ⟨w.heap.size, 0, none⟩) (Nat.le_refl _) _).set hg (p := ⟨w.heap.size, 1, none⟩) (Nat.le_refl _) _).set hg (p := ⟨w.heap.size, 2, none⟩) (Nat.le_refl _) _⟩
def counts9 : List Int := [0, 0, 0, 1, 1, 2]
theorem counts9_in : ∀ x ∈ counts9, x = 0 ∨ x = 1 ∨ x = 2 := by decide
theorem sum_in {w : World} {lo : Nat} {z : Int} {v : Value} {xs : List TItem} (hO : w.ownsRow lo 60 2 v xs.length (tcells xs)) : ∃ fp, osum.rep true w fp [.int .i64 z, v] (z, xs) ∧ fp.Nodup ∧ ∀ b ∈ fp, lo ≤ b := by
  refine ⟨v.ownBlock.toList, ⟨v, rfl, own_mono hO (Nat.zero_le _), rfl⟩, ?_, fun b hb => (hO.lt b (by simpa using hb)).1⟩
  cases v.ownBlock <;> simp

/-- Inside the drawing of a list: the result's variable, and the list's own. -/
def Arg9 (w : World) (g : Nat) (A : Option Addr) (n c : Nat) (v : Value) (b : ByteArray) (hs : List Sm) (wr : World) : Prop :=
  Owned osum 50 (fun i => w.heap.size + 2 ≤ i) wr v hs ∧ Lvar wr w.heap.size #[Value.bool false, Value.slice none 0 0, Value.string ⟨#[]⟩] ∧ Lvar wr (w.heap.size + 1) #[.bool true, v, .string b] ∧ Kept w g A n c wr

set_option maxHeartbeats 4000000 in
set_option maxRecDepth 100000 in
theorem arg9 (g : Nat) (A : Option Addr) (n c : Nat) (q : Bool) (B : Option Addr) (k d : Nat) (ls : List ByteArray) (hk : ls.length = k) (hne : ls ≠ []) (hmax : k ≤ 1000) (hm : ∀ x ∈ ls, x.size ≤ 2)
    (B2 : Option Addr) (k2 d2 : Nat) (ls2 : List ByteArray) (hk2 : ls2.length = k2) (hne2 : ls2 ≠ []) (hmax2 : k2 ≤ 1000) (hm2 : ∀ x ∈ ls2, x.size ≤ 2)
    (w : World) (hC : Cur w g A n c) (hB : StrK.SRow w B ls) (hg : ∀ b, B = some b → b.block ≠ g) (hB2 : StrK.SRow w B2 ls2) (hg2 : ∀ b, B2 = some b → b.block ≠ g) :
    Calls Tryz.prog 34 #[.pointer (some ⟨g, 0, none⟩), .bool q, .slice B k d, .slice B2 k2 d2] w (SomeArg 2 1 w g A n c) := by
  have hgl := hC.lt
  have HB := Lib.hid hB
  have HG := Lib.hid hg
  have HB2 := Lib.hid hB2
  have HG2 := Lib.hid hg2
  have HM2 := Lib.hid hm2
  have HS9 := Lib.hid (fun W (h : Kept w g A n c W) => sum9 g A n c B k d ls hk hne hmax hm W h.1 (srow_mod hB h.2 (fun a e => by have := hg a e; omega)) hg)
  have hk1 : 0 < k2 := by rw [← hk2]; exact List.length_pos_iff.2 hne2
  have hk3 : decide ((0 : Int) < (k2 : Int)) = true := decide_eq_true (by omega)
  cases q with
  | false =>
    have K1 := Lib.hid ((kept_refl hC).alloc (Obj.cells #[Value.bool false, Value.slice none 0 0, Value.string ⟨#[]⟩] 26))
    have L1 := Lib.hid (Lvar.new w #[Value.bool false, Value.slice none 0 0, Value.string ⟨#[]⟩] 26)
    clear hB hg hB2 hg2 hm2
    go_enter Tryz.func34, Tryz.ntmps34
    go_wp2_with fail
    refine (HS9.out _ K1.out).mono ?_
    rintro e w1 ⟨z, v, xs, rfl, hl1, hs2, hO, hK⟩
    have hs1 := hK.2.size
    simp only [World.size_alloc] at hs1
    have K2 := Lib.hid (K1.out.trans hK)
    have L2 := Lib.hid (L1.out.keep hK.2 (by omega))
    obtain ⟨G, cg, rfl, _, _, _, _⟩ := RowK.of_own hO
    have k0 := L2.out.cell 0 (.bool false) rfl
    have k1 := L2.out.cell 1 (.slice none 0 0) rfl
    have k2 := L2.out.cell 2 (.string ByteArray.empty) rfl
    have g0 := L2.out.frozen 0
    have g1 := L2.out.frozen 1
    have g2 := L2.out.frozen 2
    have klt := L2.out.lt
    have FL := ((((L2.out).set 0 (.bool false)).set 1 (.slice (some ⟨w1.heap.size, 0, none⟩) 1 1)).set 2 (.string ⟨#[]⟩)).alloc (Obj.cells #[Value.int IntKind.i64 z, Value.slice G xs.length cg] 50)
    have m0 := FL.cell 0 (.bool false) rfl
    have m1 := FL.cell 1 (.slice (some ⟨w1.heap.size, 0, none⟩) 1 1) rfl
    have m2 := FL.cell 2 (.string ⟨#[]⟩) rfl
    have O1 := own_one (z := z) (own_mono hO (show w.heap.size + 1 ≤ (w.alloc (Obj.cells #[Value.bool false, Value.slice none 0 0, Value.string ⟨#[]⟩] 26)).heap.size by simp)) hs1
    have FF := arg_fin (m := 2) (j := 1) (p := false) (b := ⟨#[]⟩) hgl (K2.out.alloc (Obj.cells #[Value.int IntKind.i64 z, Value.slice G xs.length cg] 50)) O1 ⟨by simp, fun h hh => by rw [List.mem_singleton.1 hh]; exact ⟨hl1, hs2⟩, by decide⟩
    rw [World.setCell_alloc_past _ _ _ _ klt, World.setCell_alloc_past _ _ _ _ (by simpa using klt), World.setCell_alloc_past _ _ _ _ (by simpa using klt)] at FF
    have FF := Lib.hid FF
    clear FL O1 hO hK HS9
    go_wp2
    exact bodyPost_ret (v := .agg #[.bool false, .slice (some ⟨w1.heap.size, 0, none⟩) 1 1, .string ⟨#[]⟩]) (by simp [results, Tryz.results34, go_sem, m0, m1, m2]) rfl FF.out
  | true =>
    obtain ⟨i0, hi0, hz0, hz1, hz2⟩ := info_parts sumInfo
    have HI := Lib.hid hi0
    have HZ0 := Lib.hid hz0
    have HZ1 := Lib.hid hz1
    have HZ2 := Lib.hid hz2
    have hu := Lib.hid Tryz.underlying24
    have K1 := Lib.hid (((kept_refl hC).alloc (Obj.cells #[Value.bool false, Value.slice none 0 0, Value.string ⟨#[]⟩] 26)).alloc (Obj.cells #[Value.bool true, Value.slice none 0 0, Value.string ⟨#[]⟩] 26))
    have L1 := Lib.hid ((Lvar.new w #[Value.bool false, Value.slice none 0 0, Value.string ⟨#[]⟩] 26).alloc (Obj.cells #[Value.bool true, Value.slice none 0 0, Value.string ⟨#[]⟩] 26))
    have V1 := Lib.hid (new1 w (Obj.cells #[Value.bool false, Value.slice none 0 0, Value.string ⟨#[]⟩] 26) #[Value.bool true, Value.slice none 0 0, Value.string ⟨#[]⟩] 26)
    clear hB hg hB2 hg2 hm2 hi0 hz0 hz1 hz2
    go_enter Tryz.func34, Tryz.ntmps34
    go_wp2_with fail
    refine (once g A n c 8 (by omega) _ K1.out.1).mono ?_
    rintro e w1 ⟨q, rfl, hL⟩
    have hs1 := hL.kept.2.size
    simp only [World.size_alloc] at hs1
    have K2 := Lib.hid (K1.out.trans hL.kept)
    have L2 := Lib.hid (L1.out.keep hL.kept.2 (by omega))
    have V2 := Lib.hid (V1.out.keep hL.kept.2 (by omega))
    clear hL K1 L1 V1
    go_upto_if 27 with fail
    go_cut [9] from 20 to 31 (fun s wx => s = .pointer (some ⟨w.heap.size + 1, 0, none⟩) ∧ ∃ b : ByteArray, b.size ≤ 2 ∧ Arg9 w g A n c (.slice none 0 0) b [] wx)
    case first =>
      cases q with
      | true =>
        go_wp2_with fail
        go_meet
        exact ⟨rfl, ⟨#[]⟩, by decide, Owned.nil _ _ _ _, L2.out, V2.out, K2.out⟩
      | false =>
        have RB := Lib.hid (srow_mod HB2.out K2.out.2 (fun a e => by have := HG2.out a e; omega))
        go_wp2_with fail
        refine (pick g A n c B2 k2 d2 ls2 hk2 hne2 (by omega) _ K2.out.1 RB.out HG2.out).mono ?_
        rintro e w3 ⟨t, ht, rfl, hL⟩
        have ht2 := HM2.out t ht
        have L3 := Lib.hid (L2.out.keep hL.kept.2 (by omega))
        have V3 := Lib.hid (V2.out.keep hL.kept.2 (by omega))
        have K3 := Lib.hid (K2.out.trans hL.kept)
        have v2 := V3.out.cell 2 (.string ⟨#[]⟩) rfl
        have f2 := V3.out.frozen 2
        have F := Lib.hid (show Arg9 w g A n c (.slice none 0 0) t [] (w3.setCell ⟨w.heap.size + 1, 2, none⟩ (.string t)) from ⟨Owned.nil _ _ _ _, L3.out.other (p := ⟨w.heap.size + 1, 2, none⟩) (by show w.heap.size ≠ w.heap.size + 1; omega) _, by simpa using V3.out.set 2 (.string t), K3.out.set hgl (p := ⟨w.heap.size + 1, 2, none⟩) (Nat.le_succ _) _⟩)
        clear hL ht
        go_wp2_with fail
        go_meet
        exact ⟨rfl, t, ht2, F.out⟩
    case rest =>
      obtain ⟨rfl, b, hb2, h1, h2, h3, h4⟩ := hcut
      have L4 := Lib.hid h2
      have V4 := Lib.hid h3
      have K4 := Lib.hid h4
      clear h1 h2 h3 h4 L2 V2 K2
      have KR := Lib.hid (K4.out.alloc (.cells (counts9.map (Value.int .i64)).toArray 3))
      have hl4 := L4.out.lt
      have R1 := Lib.hid (irow_new wc counts9 3)
      go_wp2_with fail
      refine (pickInt g A n c (some ⟨wc.heap.size, 0, none⟩) 6 6 counts9 rfl (by decide) (by omega) _ KR.out.1 R1.out (fun b e => by injection e with e; subst e; show wc.heap.size ≠ g; omega)).mono ?_
      rintro e w5 ⟨x, hx, rfl, hL⟩
      obtain ⟨r, hr, rfl⟩ : ∃ r : Nat, r ≤ 2 ∧ x = (r : Int) := by
        rcases counts9_in x hx with rfl | rfl | rfl
        · exact ⟨0, by omega, rfl⟩
        · exact ⟨1, by omega, rfl⟩
        · exact ⟨2, by omega, rfl⟩
      have K5 := Lib.hid (KR.out.trans hL.kept)
      have L5 := Lib.hid ((L4.out.alloc (.cells (counts9.map (Value.int .i64)).toArray 3)).keep hL.kept.2 (by omega))
      have V5 := Lib.hid ((V4.out.alloc (.cells (counts9.map (Value.int .i64)).toArray 3)).keep hL.kept.2 (by omega))
      clear hL hx L4 V4 K4 KR R1
      go_wp2
      go_loopw [11] (fun i wr => ∃ (k : Nat) (v : Value) (hs : List Sm), k ≤ r ∧ i = .int .i64 k ∧ hs.length = k ∧ (∀ h ∈ hs, h.2.length ≤ 1 ∧ ∀ t ∈ h.2, t.2.size ≤ 2) ∧ Arg9 w g A n c v b hs wr) (fun i _ => 10 - (intOf i).toNat)
      case atStart => exact ⟨0, .slice none 0 0, [], by omega, rfl, rfl, (fun _ h => by cases h), Owned.nil _ _ _ _, L5.out, V5.out, K5.out⟩
      case round =>
        obtain ⟨i, v, hs, hi, rfl, hl, hr9, hO, hR, hS, hK⟩ := hrel
        have HL := Lib.hid hl
        have HR := Lib.hid hr9
        have HO := Lib.hid hO
        have V1 := Lib.hid hR
        have V2 := Lib.hid hS
        have HK := Lib.hid hK
        have hsz : w.heap.size + 2 ≤ wr.heap.size := hS.lt
        have v20 := hS.cell 0 (.bool true) rfl
        have v21 := hS.cell 1 v rfl
        have v22 := hS.cell 2 (.string b) rfl
        clear hl hr9 hO hR hS hK
        by_cases hlt : i < r
        · have hlt1 : decide ((i : Int) < (r : Int)) = true := decide_eq_true (by omega)
          have hlt2 : (i : Int) < (r : Int) := by omega
          obtain ⟨es, hes, hown, he, hn, hog, hdis⟩ := HO.out
          have hown : wr.ownsRow 0 50 2 v hs.length (cells es) := hown
          have hob : v.ownBlock ≠ some (w.heap.size + 1) ∧ v.ownBlock ≠ some w.heap.size ∧ v.ownBlock ≠ some g := by
            refine ⟨fun e => ?_, fun e => ?_, fun e => ?_⟩ <;> (have h9 : w.heap.size + 2 ≤ _ := hog _ e; omega)
          have HOB := Lib.hid hob
          have HES := Lib.hid hes
          have HOW := Lib.hid hown
          have HEL := Lib.hid he
          have HN := Lib.hid hn
          have HOG := Lib.hid hog
          have HDI := Lib.hid hdis
          clear hes hown he hn hog hdis hob
          go_wp2_with fail
          go_region_law (first
            | (refine step_append_where rfl _ _ _ rfl 50 i0 (.agg #[.int .i64 0, .slice none 0 0]) 2 32 0 hu.out HI.out HZ0.out HZ1.out HZ2.out rfl (by decide) (v) hs.length (cells es) rfl (OW4.out.alloc _) ⟨w4.heap.size, 0, none⟩ 1 1 [.int .i64 z, .slice C xs.length c'] rfl rfl (World.news_of_block (cs := #[.int .i64 z, .slice C xs.length c']) (heap_alloc_new w4 _)) (by simp [Value.oneCell']) (by rw [HL.out]; unfold maxLen; omega) (by rw [HL.out]; omega) (Nat.zero_le _) ?_; intro v5 w5 hown5 hgrow5 hwh5; (obtain ⟨A5, c5, rfl, _, _, _, _⟩ := RowK.of_own hown5); (have V25 := lvar_grown (V24.alloc (Obj.cells #[.int .i64 z, .slice C xs.length c'] 50)) hgrow5 HOB.out.1); (have v250 := V25.cell 0 _ rfl); (have v251 := V25.cell 1 (v) rfl); (have v252 := V25.cell 2 (.string b) rfl); (have p250 := V25.frozen 0); (have p251 := V25.frozen 1); (have p252 := V25.frozen 2))
            | (go_simp; go_at_call 54; refine (Calls.mono (HS9.out _ (HK.out.drew))) ?_; rintro e w4 ⟨z, vt, xs, rfl, hP1, hP2, hO4, hK4⟩; (obtain ⟨C, c', rfl, _, _, _, _⟩ := RowK.of_own hO4); (have m4 := hK4.2); (have V24 : Lvar w4 (w.heap.size + 1) #[Value.bool true, v, Value.string b] := Lvar.keep (w := wr.drew) V2.out m4 (by omega)); (have v240 := V24.cell 0 (.bool true) rfl); (have v241 := V24.cell 1 v rfl); (have v242 := V24.cell 2 (.string b) rfl); (have v4l := V24.lt); (have OW4 := Lib.hid (HOW.out.drew.kept (grown_of_mod m4) (Or.inr HOB.out.2.2)))))
          all_goals
            have hdr : Below wr.heap.size wr wr.drew := (Below.refl _ _).drew
            have hlt' : ∀ b ∈ fps es, b < wr.heap.size := fun b hb => by
              obtain ⟨e, h6, h7⟩ := List.mem_flatMap.1 hb
              exact osum.lt (HEL.out e h6) b h7
            have hs4 : wr.heap.size ≤ w4.heap.size := m4.size
            have ta : Below w4.heap.size w4 (w4.alloc (Obj.cells #[.int .i64 z, .slice C xs.length c'] 50)) := (Below.refl _ _).alloc (Nat.le_refl _) _
            obtain ⟨fpC, q1, q2, q3⟩ := sum_in (z := z) (hO4.alloc (Obj.cells #[.int .i64 z, .slice C xs.length c'] 50))
            have RR := Owned.snoc (r := osum) (m := wr.heap.size) HES.out (fun x hx => Rep.below (Rep.keep (Rep.below (HEL.out x hx) hdr) m4 (fun b hb => Or.inr (by have h9 : w.heap.size + 2 ≤ b := (HDI.out b (mem_fps hx hb)).1; omega))) ta) hlt' HN.out HDI.out (fun g e => ⟨HOG.out g e, (HOW.out.lt g e).2⟩) q1 q2 (fun b hb => q3 b hb) (fun b hb => Nat.le_trans hsz hb) hown5 hgrow5 hwh5 (Nat.le_trans hs4 (by simp))
            have hs5 := hgrow5.size
            simp only [World.size_alloc] at hs5
            have RF := Lib.hid (RR.set (b := w.heap.size + 1) (by show ¬ (w.heap.size + 2 ≤ w.heap.size + 1); omega) 1 (.slice A5 (hs.length + 1) c5))
            have W1 := Lib.hid ((lvar_grown (((Lvar.keep (w := wr.drew) V1.out m4 (by omega)).alloc (Obj.cells #[.int .i64 z, .slice C xs.length c'] 50))) hgrow5 HOB.out.2.1).other (p := ⟨w.heap.size + 1, 1, none⟩) (by show w.heap.size ≠ w.heap.size + 1; omega) (.slice A5 (hs.length + 1) c5))
            have W2 := V25.set 1 (.slice A5 (hs.length + 1) c5)
            have W2 := Lib.hid (show Lvar (w5.setCell ⟨w.heap.size + 1, 1, none⟩ (.slice A5 (hs.length + 1) c5)) (w.heap.size + 1) #[.bool true, .slice A5 (hs.length + 1) c5, .string b] by simpa using W2)
            have KF := Lib.hid (((((HK.out.drew).trans hK4).alloc (Obj.cells #[.int .i64 z, .slice C xs.length c'] 50)).grown hgrow5 hgl (fun r e => by have h9 : w.heap.size + 2 ≤ r := HOG.out r e; omega)).set hgl (p := ⟨w.heap.size + 1, 1, none⟩) (by show w.heap.size ≤ w.heap.size + 1; omega) (.slice A5 (hs.length + 1) c5))
            have HR5 := Lib.hid (show ∀ h ∈ hs ++ [(z, xs)], h.2.length ≤ 1 ∧ ∀ t ∈ h.2, t.2.size ≤ 2 from fun x hx => by
              rcases List.mem_append.1 hx with h | h
              · exact HR.out x h
              · rw [List.mem_singleton.1 h]; exact ⟨hP1, hP2⟩)
            have HL5 := Lib.hid (show (hs ++ [(z, xs)]).length = i + 1 by have := HL.out; simp; omega)
            clear RR hown5 hgrow5 hwh5 hO4 hP1 hP2 hK4 m4 ta hdr V24 v240 v241 v242 V25 v250 v251 v252 p250 p251 p252 OW4 hlt' v20 v21 v22 HOB q1 q2 q3
            go_wp2
            go_roundw
            case rel => exact ⟨i + 1, .slice A5 (hs.length + 1) c5, hs ++ [(z, xs)], by omega, by go_num, HL5.out, HR5.out, RF.out, W1.out, W2.out, KF.out⟩
            case measure => simp [intOf]; omega
        · obtain ⟨A2, c2, fp2, rfl, _⟩ := HO.out.rep (Nat.succ_pos _)
          have F := Lib.hid (arg_fin (m := 2) (j := 1) (p := true) (b := b) hgl HK.out (HO.out.to (fun b _ (h : w.heap.size + 2 ≤ b) => show w.heap.size + 1 ≤ b by omega)) ⟨by rw [HL.out]; omega, HR.out, hb2⟩)
          have l0 := V1.out.cell 0 (.bool false) rfl
          have l1 := V1.out.cell 1 (.slice none 0 0) rfl
          have l2 := V1.out.cell 2 (.string ByteArray.empty) rfl
          have p0 := V1.out.frozen 0
          have p1 := V1.out.frozen 1
          have p2 := V1.out.frozen 2
          have hdl : decide ((i : Int) < (r : Int)) = false := decide_eq_false (by omega)
          have hdl' : decide (i < r) = false := decide_eq_false hlt
          go_wp2
          exact bodyPost_ret (v := .agg #[.bool true, .slice A2 hs.length c2, .string b]) (by simp [results, Tryz.results34, go_sem, l0, l1, l2]) rfl F.out

theorem m9 {hs : List Sm} {b : ByteArray} (h : ArgIs 2 1 hs b) : ArgIs 3 2 hs b := ⟨by have := h.1; omega, fun x hx => ⟨by have := (h.2.1 x hx).1; omega, (h.2.1 x hx).2⟩, h.2.2⟩
/-- Inside l9Bent: the argument's variable is the block h. -/
def Bent9 (w : World) (g : Nat) (A : Option Addr) (n c h : Nat) (p : Bool) (u : Value) (b : ByteArray) (hs : List Sm) (W : World) : Prop :=
  Owned osum 50 (fun i => w.heap.size + 1 ≤ i ∧ i ≠ h) W u hs ∧ Lvar W w.heap.size #[Value.bool false, Value.slice none 0 0, Value.string ⟨#[]⟩] ∧ Lvar W h #[.bool p, u, .string b] ∧ Kept w g A n c W
section
variable {w W W' : World} {g n c h : Nat} {A : Option Addr} {p : Bool} {u : Value} {b : ByteArray} {hs : List Sm}
theorem Bent9.below (H : Bent9 w g A n c h p u b hs W) (hb : Below W.heap.size W W') : Bent9 w g A n c h p u b hs W' :=
  ⟨H.1.below hb, H.2.1.below hb, H.2.2.1.below hb, Kept.below H.2.2.2 hb⟩
theorem Bent9.alloc (H : Bent9 w g A n c h p u b hs W) (o : Obj) : Bent9 w g A n c h p u b hs (W.alloc o) := H.below ((Below.refl _ _).alloc (Nat.le_refl _) _)
theorem Bent9.drew (H : Bent9 w g A n c h p u b hs W) : Bent9 w g A n c h p u b hs W.drew := H.below (Below.refl _ _).drew
theorem Bent9.call (H : Bent9 w g A n c h p u b hs W) (hg : g < w.heap.size) (hh : w.heap.size < h) (k : Kept W g A n c W') : Bent9 w g A n c h p u b hs W' :=
  ⟨owned_mod H.1 k.2 (fun e => by omega), H.2.1.keep k.2 (by omega), H.2.2.1.keep k.2 (by omega), H.2.2.2.trans k⟩
/-- The end: the argument is stored into the result's variable. -/
theorem Bent9.fin (H : Bent9 w g A n c h p u b hs W) (hg : g < w.heap.size) (hA : ArgIs 3 2 hs b) :
    SomeArg 3 2 w g A n c (.returned (.agg #[.bool p, u, .string b])) (((W.setCell ⟨w.heap.size, 0, none⟩ (.bool p)).setCell ⟨w.heap.size, 1, none⟩ u).setCell ⟨w.heap.size, 2, none⟩ (.string b)) :=
  arg_fin hg H.2.2.2 (H.1.to (fun _ _ h => h.1)) hA
end
/-- One head more. W: ahead of the head's making, W7: ahead of the append, W8: behind it. -/
theorem Bent9.more {w W W7 W8 : World} {g n c h : Nat} {A : Option Addr} {p : Bool} {u v : Value} {b : ByteArray} {hs : List Sm} {es : List (El Sm)} {x : Sm} {fp : List Nat} {cs : List Value} (H : Bent9 w g A n c h p u b hs W) (hgl : g < w.heap.size) (hh : w.heap.size < h) (h7 : Below W.heap.size W W7)
    (hes : vals es = hs) (he : ∀ y ∈ es, osum.rep true W y.1 y.2.1 y.2.2) (hn : (fps es).Nodup) (hog : ∀ g, u.ownBlock = some g → w.heap.size + 1 ≤ g ∧ g ≠ h) (hd : ∀ g ∈ fps es, (w.heap.size + 1 ≤ g ∧ g ≠ h) ∧ u.ownBlock ≠ some g) (hown0 : W.ownsRow 0 50 2 u hs.length (cells es))
    (hx : osum.rep true W7 fp cs x) (hxn : fp.Nodup) (hxm : ∀ b ∈ fp, W.heap.size ≤ b) (ho : W8.ownsRow 0 50 2 v (hs.length + 1) (cells es ++ cs)) (hg : W7.grownBy W8 u.ownBlock) (hv : v.ownBlock = u.ownBlock ∨ ∀ g, v.ownBlock = some g → W7.heap.size ≤ g) :
    Bent9 w g A n c h p v b (hs ++ [x]) (W8.setCell ⟨h, 1, none⟩ v) ∧ Lvar W8 h #[.bool p, u, .string b] := by
  have H7 := H.below h7
  have hhl := H.2.2.1.lt
  have hne : ∀ g, ¬ (w.heap.size + 1 ≤ g ∧ g ≠ h) → u.ownBlock ≠ some g := fun g hg e => hg (hog g e)
  have hl := lvar_grown H7.2.2.1 hg (hne h (fun e => e.2 rfl))
  have hlt : ∀ g ∈ fps es, g < W.heap.size := fun g hg => by
    obtain ⟨y, h6, h7⟩ := List.mem_flatMap.1 hg
    exact osum.lt (he y h6) g h7
  have RR := Owned.snoc (ok := fun i => w.heap.size + 1 ≤ i ∧ i ≠ h) (r := osum) (m := W.heap.size) hes (fun y hy => Rep.below (he y hy) h7) hlt hn hd (fun g e => ⟨hog g e, (hown0.lt g e).2⟩) hx hxn hxm (fun g hg => ⟨by omega, by omega⟩) ho hg hv h7.size
  exact ⟨⟨RR.set (b := h) (by simp) 1 v, (lvar_grown H7.2.1 hg (hne _ (by omega))).other (p := ⟨h, 1, none⟩) (by show w.heap.size ≠ h; omega) _, by simpa using hl.set 1 v, (H7.2.2.2.grown hg hgl (fun r e => by have := hog r e; omega)).set hgl (p := ⟨h, 1, none⟩) (Nat.le_of_lt hh) _⟩, hl⟩
/-- The heads' row, spelled out. -/
def Row9 (w : World) (h : Nat) (u : Value) (hs : List Sm) (es : List (El Sm)) (W : World) : Prop :=
  vals es = hs ∧ W.ownsRow 0 50 2 u hs.length (cells es) ∧ (∀ y ∈ es, osum.rep true W y.1 y.2.1 y.2.2) ∧ (fps es).Nodup ∧ (∀ g, u.ownBlock = some g → w.heap.size + 1 ≤ g ∧ g ≠ h) ∧ ∀ g ∈ fps es, (w.heap.size + 1 ≤ g ∧ g ≠ h) ∧ u.ownBlock ≠ some g
theorem Row9.grown {w W W' : World} {h : Nat} {u : Value} {hs : List Sm} {es : List (El Sm)} {row : Option Nat} (H : Row9 w h u hs es W) (hg : W.grownBy W' row) (hr : ∀ b, row = some b → ¬ (w.heap.size + 1 ≤ b ∧ b ≠ h)) : Row9 w h u hs es W' := by
  obtain ⟨h1, h2, h3, h4, h5, h6⟩ := H
  refine ⟨h1, h2.kept hg ?_, fun x hx => osum.same (h3 x hx) hg.size (fun b hb => hg.block b (osum.lt (h3 x hx) b hb) (fun e' => hr b e'.symm (h6 b (mem_fps hx hb)).1)), h4, h5, h6⟩
  by_cases hv : u.ownBlock = none
  · exact Or.inl hv
  · refine Or.inr fun e' => ?_
    cases hrw : u.ownBlock with
    | none => exact hv hrw
    | some g => exact hr g (by rw [← e', hrw]) (h5 g hrw)
theorem Row9.below {w W W' : World} {h : Nat} {u : Value} {hs : List Sm} {es : List (El Sm)} (H : Row9 w h u hs es W) (hb : Below W.heap.size W W') : Row9 w h u hs es W' := H.grown (row := none) (StrK.only_below hb none) (fun _ e => by cases e)
theorem Row9.call {w W W' : World} {g n c h : Nat} {A : Option Addr} {u : Value} {hs : List Sm} {es : List (El Sm)} (H : Row9 w h u hs es W) (hg : g < w.heap.size) (k : Kept W g A n c W') : Row9 w h u hs es W' := H.grown (grown_of_mod k.2) (fun b e => by injection e with e; omega)
set_option maxHeartbeats 1000000 in
/-- A term more in the first head. W: ahead of the term's making, W7: ahead of the append, W8: behind it. -/
theorem Bent9.first {w W W7 W8 : World} {g n c h b0 cu : Nat} {A : Option Addr} {p : Bool} {v0 v8 : Value} {b : ByteArray} {hs : List Sm} {fp0 : List Nat} {z0 : Int} {xs0 : List TItem} {t : TItem} {rest : List (El Sm)} {us : List Value}
    (R : Row9 w h (.slice (some ⟨b0, 0, none⟩) hs.length cu) hs ((fp0, [.int .i64 z0, v0], (z0, xs0)) :: rest) W) (L : Lvar W w.heap.size #[Value.bool false, Value.slice none 0 0, Value.string ⟨#[]⟩]) (V : Lvar W h #[.bool p, .slice (some ⟨b0, 0, none⟩) hs.length cu, .string b]) (K : Kept w g A n c W) (hgl : g < w.heap.size) (hh : w.heap.size < h) (h7 : Below W.heap.size W W7)
    (hus : tcells (xs0 ++ [t]) = tcells xs0 ++ us) (ho : W8.ownsRow 0 60 2 v8 (xs0.length + 1) (tcells xs0 ++ us)) (hg : W7.grownBy W8 v0.ownBlock) (hv : v8.ownBlock = v0.ownBlock ∨ ∀ g, v8.ownBlock = some g → W7.heap.size ≤ g) :
    Bent9 w g A n c h p (.slice (some ⟨b0, 0, none⟩) hs.length cu) b ((z0, xs0 ++ [t]) :: vals rest) (W8.setCell ⟨b0, 1, none⟩ v8) ∧ ((z0, xs0 ++ [t]) :: vals rest).length = hs.length := by
  have hhl := V.lt
  have R7 := R.below h7
  obtain ⟨r1, r2, r3, r4, r5, r6⟩ := R7
  obtain ⟨v0', e1, e2, e3⟩ := r3 _ List.mem_cons_self
  have e1' : v0 = v0' := by
    have : [Value.int .i64 z0, v0] = [.int .i64 z0, v0'] := e1
    injection this with _ e; injection e
  subst e1'
  have e3' : fp0 = v0.ownBlock.toList := e3
  subst e3'
  have hf : fps ((v0.ownBlock.toList, [Value.int .i64 z0, v0], (z0, xs0)) :: rest) = v0.ownBlock.toList ++ fps rest := by simp [fps]
  rw [hf] at r4 r6
  have hb0 := r5 b0 rfl
  have hv0 : ∀ j, v0.ownBlock = some j → (w.heap.size + 1 ≤ j ∧ j ≠ h) ∧ j ≠ b0 := fun j hj => by
    have h1 := r6 j (List.mem_append_left _ (by simp [hj]))
    exact ⟨h1.1, fun e => h1.2 (by rw [e]; rfl)⟩
  have hb7 : b0 < W.heap.size := (R.2.1.lt b0 rfl).2
  have hs7 := h7.size
  have hv8 : ∀ j, v8.ownBlock = some j → (w.heap.size + 1 ≤ j ∧ j ≠ h) ∧ j ≠ b0 ∧ j ∉ fps rest := fun j hj => by
    rcases hv with hv | hv
    · have hj0 : v0.ownBlock = some j := by rw [← hv]; exact hj
      exact ⟨(hv0 j hj0).1, (hv0 j hj0).2, fun hm => (List.nodup_append.1 r4).2.2 j (by simp [hj0]) j hm rfl⟩
    · have h1 := hv j hj
      refine ⟨⟨by omega, by omega⟩, by omega, fun hm => ?_⟩
      obtain ⟨y, h6, h7'⟩ := List.mem_flatMap.1 hm
      have := osum.lt (R.2.2.1 y (List.mem_cons_of_mem _ h6)) j h7'
      omega
  have hl8 : vals rest = hs.tail := by rw [← r1]; rfl
  have hlen : ((z0, xs0 ++ [t]) :: vals rest).length = hs.length := by rw [← r1]; simp [vals]
  have own8 := r2.kept hg (Or.inr (fun e => (hv0 b0 e.symm).2 rfl))
  have own9 := (own8.stored 1 v8).1
  have gr9 := (own8.stored 1 v8).2
  refine ⟨⟨⟨(v8.ownBlock.toList, [.int .i64 z0, v8], (z0, xs0 ++ [t])) :: rest, ?_, ?_, ?_, ?_, ?_, ?_⟩, ?_, ?_, ?_⟩, hlen⟩
  · simp [vals]
  · rw [hlen]
    show World.ownsRow _ 0 50 2 _ _ _
    simpa [cells] using own9
  · intro y hy
    rcases List.mem_cons.1 hy with rfl | hy
    · refine ⟨v8, rfl, ?_, rfl⟩
      show World.ownsRow _ 0 60 2 v8 (xs0 ++ [t]).length (tcells (xs0 ++ [t]))
      rw [hus, List.length_append, List.length_singleton]
      exact own_same ho (fun j hj => gr9.block j (ho.lt j hj).2 (fun e => by injection e with e; exact (hv8 j hj).2.1 e))
    · have h1 := R.2.2.1 y (List.mem_cons_of_mem _ hy)
      have h2 := Rep.below h1 h7
      have h3 : osum.rep true W8 y.1 y.2.1 y.2.2 := osum.same h2 hg.size (fun j hj => hg.block j (osum.lt h2 j hj) (fun e => (List.nodup_append.1 r4).2.2 j (by simp [← e]) j (mem_fps hy hj) rfl))
      exact osum.same h3 gr9.size (fun j hj => gr9.block j (osum.lt h3 j hj) (fun e => by
        injection e with e
        exact (r6 j (List.mem_append_right _ (mem_fps hy hj))).2 (by rw [e]; rfl)))
  · have hf2 : fps ((v8.ownBlock.toList, [Value.int .i64 z0, v8], (z0, xs0 ++ [t])) :: rest) = v8.ownBlock.toList ++ fps rest := by simp [fps]
    rw [hf2]
    refine List.nodup_append.2 ⟨by cases v8.ownBlock <;> simp, (List.nodup_append.1 r4).2.1, fun a ha b hb e => ?_⟩
    subst e
    exact (hv8 a (by simpa using ha)).2.2 hb
  · intro j hj
    exact r5 j hj
  · have hf2 : fps ((v8.ownBlock.toList, [Value.int .i64 z0, v8], (z0, xs0 ++ [t])) :: rest) = v8.ownBlock.toList ++ fps rest := by simp [fps]
    intro j hj
    rw [hf2] at hj
    rcases List.mem_append.1 hj with hj | hj
    · have h1 := hv8 j (by simpa using hj)
      exact ⟨h1.1, fun e => by injection e with e; exact h1.2.1 e.symm⟩
    · exact r6 j (List.mem_append_right _ hj)
  · exact (lvar_grown (L.below h7) hg (fun e => by have := hv0 _ e; omega)).other (p := ⟨b0, 1, none⟩) (by show w.heap.size ≠ b0; omega) _
  · exact (lvar_grown (V.below h7) hg (fun e => (hv0 _ e).1.2 rfl)).other (p := ⟨b0, 1, none⟩) (by show h ≠ b0; omega) _
  · exact ((Kept.below K h7).grown hg hgl (fun r e => by have := (hv0 r e).1; omega)).set hgl (p := ⟨b0, 1, none⟩) (by show w.heap.size ≤ b0; omega) _
theorem new_block (w : World) (o : Obj) (cs : Array Value) (T : TypeId) : ((w.alloc o).alloc (Obj.cells cs T)).heap[w.heap.size + 1]? = some (Obj.cells cs T (0, 0)) := by
  have := heap_alloc_new (w.alloc o) (.cells cs T)
  rwa [World.size_alloc] at this
theorem nh9 {w W : World} {h : Nat} {u v0 : Value} {hs : List Sm} {fp0 : List Nat} {z0 : Int} {xs0 : List TItem} {rest : List (El Sm)} (R : Row9 w h u hs ((fp0, [.int .i64 z0, v0], (z0, xs0)) :: rest) W) : v0.ownBlock ≠ some h := fun e => by
  obtain ⟨v0', e1, e2, e3⟩ := R.2.2.1 _ List.mem_cons_self
  have e1' : v0 = v0' := by
    have h2 : [Value.int .i64 z0, v0] = [.int .i64 z0, v0'] := e1
    injection h2 with _ e; injection e
  subst e1'
  have e3' : fp0 = v0.ownBlock.toList := e3
  subst e3'
  exact (R.2.2.2.2.2 h (by simp [fps, e])).1.2 rfl
theorem rf9 {w W W8 : World} {h b0 cu : Nat} {o : Obj} {v0 : Value} {hs : List Sm} {fp0 : List Nat} {z0 : Int} {xs0 : List TItem} {rest : List (El Sm)} (R : Row9 w h (.slice (some ⟨b0, 0, none⟩) hs.length cu) hs ((fp0, [.int .i64 z0, v0], (z0, xs0)) :: rest) W) (hg : (W.alloc o).grownBy W8 v0.ownBlock) : W8.frozen? ⟨b0, 1, none⟩ = false ∧ (0 < hs.length → W8.cell? ⟨b0, 1, none⟩ = some v0) := by
  obtain ⟨v0', e1, e2, e3⟩ := R.2.2.1 _ List.mem_cons_self
  have e1' : v0 = v0' := by
    have h2 : [Value.int .i64 z0, v0] = [.int .i64 z0, v0'] := e1
    injection h2 with _ e; injection e
  subst e1'
  have e3' : fp0 = v0.ownBlock.toList := e3
  subst e3'
  have hne : v0.ownBlock ≠ some b0 := fun e => (R.2.2.2.2.2 b0 (by simp [fps, e])).2 rfl
  have hk := (R.2.1.alloc o).kept hg (Or.inr (fun e => hne e.symm))
  refine ⟨hk.frozenAt 1, fun h0 => ?_⟩
  rw [hk.cellAt 1 (by omega)]
  rfl
theorem a9 {hs : List Sm} {b t : ByteArray} {z0 z1 : Int} {xs0 : List TItem} {rest : List Sm} (h : ArgIs 2 1 hs b) (hl : xs0.length ≤ 1) (hx : ∀ t ∈ xs0, t.2.size ≤ 2) (ht : t.size ≤ 2) (hv : (z0, xs0) :: rest = hs) {y : Sm} (hy : y ∈ (z0, xs0 ++ [(z1, t)]) :: rest) : y.2.length ≤ 2 ∧ ∀ t ∈ y.2, t.2.size ≤ 2 := by
  rcases List.mem_cons.1 hy with rfl | hy
  · refine ⟨by simp; omega, fun x h2 => ?_⟩
    rcases List.mem_append.1 h2 with h2 | h2
    · exact hx x h2
    · rw [List.mem_singleton.1 h2]; exact ht
  · exact (m9 h).2.1 y (by rw [← hv]; exact List.mem_cons_of_mem _ hy)
theorem cast8 {w W : World} {g n c h c8 : Nat} {A A8 : Option Addr} {p : Bool} {b : ByteArray} {hs : List Sm} {k : Nat} (e : hs.length = k) (H : Bent9 w g A n c h p (.slice A8 k c8) b hs W) : Bent9 w g A n c h p (.slice A8 hs.length c8) b hs W := by
  rw [e]
  exact H
theorem cast9 {w W : World} {g n c h : Nat} {A A8 : Option Addr} {c8 : Nat} {p : Bool} {b : ByteArray} {hs : List Sm} {x : Sm} (H : Bent9 w g A n c h p (.slice A8 (hs.length + 1) c8) b (hs ++ [x]) W) : Bent9 w g A n c h p (.slice A8 (hs ++ [x]).length c8) b (hs ++ [x]) W := by
  rw [List.length_append, List.length_singleton]
  exact H
def names9 : List ByteArray := [⟨#[104]⟩, ⟨#[109]⟩, ⟨#[110]⟩]
def lists9 : List ByteArray := [⟨#[116, 115]⟩, ⟨#[120, 115]⟩]
def bases9 : List ByteArray := [⟨#[110]⟩, ⟨#[105, 102]⟩, ⟨#[120, 115]⟩]
def terms9 : List ByteArray := [⟨#[110]⟩, ⟨#[120, 115]⟩, ⟨#[49]⟩]
def coefs9 : List Int := [0, 1, 1000001]
def more9 : List ByteArray := [⟨#[122]⟩, ⟨#[97]⟩]
theorem names9_size : ∀ s ∈ names9, s.size ≤ 2 := by decide
theorem lists9_size : ∀ s ∈ lists9, s.size ≤ 2 := by decide
theorem bases9_size : ∀ s ∈ bases9, s.size ≤ 2 := by decide
theorem terms9_size : ∀ s ∈ terms9, s.size ≤ 2 := by decide
theorem more9_size : ∀ s ∈ more9, s.size ≤ 2 := by decide

set_option maxHeartbeats 20000000 in
set_option maxRecDepth 100000 in
theorem bent9 (g : Nat) (A : Option Addr) (n c : Nat) (w : World) (hC : Cur w g A n c) :
    Calls Tryz.prog 18 #[.pointer (some ⟨g, 0, none⟩)] w (SomeArg 3 2 w g A n c) := by
  have hgl := hC.lt
  obtain ⟨i0, hi0, hz0, hz1, hz2⟩ := info_parts sumInfo
  have HI := Lib.hid hi0
  have HZ0 := Lib.hid hz0
  have HZ1 := Lib.hid hz1
  have HZ2 := Lib.hid hz2
  have hu := Lib.hid Tryz.underlying24
  have K1 := Lib.hid ((kept_refl hC).alloc (Obj.cells #[Value.bool false, Value.slice none 0 0, Value.string ⟨#[]⟩] 26))
  have L1 := Lib.hid (Lvar.new w #[Value.bool false, Value.slice none 0 0, Value.string ⟨#[]⟩] 26)
  clear hi0 hz0 hz1 hz2
  go_enter Tryz.func18, Tryz.ntmps18
  go_wp2_with fail
  refine (once g A n c 2 (by omega) _ K1.out.1).mono ?_
  rintro e w1 ⟨q, rfl, hL⟩
  have hs1 := hL.kept.2.size
  simp only [World.size_alloc] at hs1
  have K2 := Lib.hid (((K1.out.trans hL.kept).alloc (.cells (names9.map Value.string).toArray 9)).alloc (.cells (lists9.map Value.string).toArray 9))
  have L2 := Lib.hid (((L1.out.keep hL.kept.2 (by omega)).alloc (.cells (names9.map Value.string).toArray 9)).alloc (.cells (lists9.map Value.string).toArray 9))
  have R1 := Lib.hid ((row_new w1 names9 9).below ((Below.refl _ _).alloc (Nat.le_refl _) (.cells (lists9.map Value.string).toArray 9)))
  have R2 := row_new (w1.alloc (.cells (names9.map Value.string).toArray 9)) lists9 9
  rw [World.size_alloc] at R2
  have R2 := Lib.hid R2
  clear hL K1 L1
  go_wp2_with fail
  refine (arg9 g A n c q (some ⟨w1.heap.size, 0, none⟩) 3 3 names9 rfl (by decide) (by omega) names9_size (some ⟨w1.heap.size + 1, 0, none⟩) 2 2 lists9 rfl (by decide) (by omega) lists9_size _ K2.out.1 R1.out (fun b e => by injection e with e; subst e; show w1.heap.size ≠ g; omega) R2.out (fun b e => by injection e with e; subst e; show w1.heap.size + 1 ≠ g; omega)).mono ?_
  rintro e w2 ⟨p, u, b, hs, rfl, hA, hO, hK⟩
  have hs2 := hK.2.size
  simp only [World.size_alloc] at hs2
  have HA := Lib.hid hA
  obtain ⟨G, cg, fpg, rfl, _, _, _⟩ := hO.rep (Nat.succ_pos _)
  have V3 := Lib.hid (show Bent9 w g A n c w2.heap.size p (.slice G hs.length cg) b hs (w2.alloc (Obj.cells #[Value.bool p, Value.slice G hs.length cg, Value.string b] 26)) from
    ⟨(hO.to (ok' := fun i => w.heap.size + 1 ≤ i ∧ i ≠ w2.heap.size) (fun j hj (hh : _ ≤ j) => by simp only [World.size_alloc] at hh; exact ⟨by omega, by omega⟩)).below ((Below.refl _ _).alloc (Nat.le_refl _) _), (L2.out.keep hK.2 (by omega)).alloc _, Lvar.new _ _ _, (K2.out.trans hK).alloc _⟩)
  have hh : w.heap.size < w2.heap.size := by omega
  have HS3 := Lib.hid (show (w2.alloc (Obj.cells #[Value.bool p, Value.slice G hs.length cg, Value.string b] 26)).heap.size = w2.heap.size + 1 by simp)
  clear hA hO hK K2 L2 R1 R2
  go_upto_region 2 with fail
  generalize w2.alloc (Obj.cells #[Value.bool p, Value.slice G hs.length cg, Value.string b] 26) = w3 at *
  generalize w2.heap.size = h at *
  go_wp2_with fail
  refine (below g A n c 10 (by omega) _ V3.out.2.2.2.1).mono ?_
  rintro e w4 ⟨x, hx0, hx1, _, rfl, hL⟩
  have V4 := Lib.hid (V3.out.call hgl hh hL.kept)
  have hs4 : h + 1 ≤ w4.heap.size := by have := hL.kept.2.size; have := HS3.out; omega
  clear hL V3 HS3 hs2 hs1
  go_upto_block 0 with fail
  go_cut [3] from 12 to 60 (fun s wx => s = .pointer (some ⟨h, 0, none⟩) ∧ ∃ (p' : Bool) (A8 : Option Addr) (c8 : Nat) (b' : ByteArray) (hs' : List Sm), ArgIs 3 2 hs' b' ∧ Bent9 w g A n c h p' (.slice A8 hs'.length c8) b' hs' wx)
  case first =>
    by_cases x0 : x = 0
    · subst x0
      have v0 := V4.out.2.2.1.cell 0 (.bool p) rfl
      have v1 := V4.out.2.2.1.cell 1 (.slice G hs.length cg) rfl
      have v2 := V4.out.2.2.1.cell 2 (.string b) rfl
      have f0 := V4.out.2.2.1.frozen 0
      have V5 := Lib.hid (show Bent9 w g A n c h (!p) (.slice G hs.length cg) b hs (w4.setCell ⟨h, 0, none⟩ (.bool !p)) from
        ⟨V4.out.1.set (by simp) 0 _, V4.out.2.1.other (p := ⟨h, 0, none⟩) (by show w.heap.size ≠ h; omega) _, by simpa using V4.out.2.2.1.set 0 (.bool !p), V4.out.2.2.2.set hgl (p := ⟨h, 0, none⟩) (Nat.le_of_lt hh) _⟩)
      go_wp2_with fail
      go_meet
      exact ⟨rfl, _, _, _, _, _, m9 HA.out, V5.out⟩
    · have x0' : (x == 0) = false := by simpa using x0
      by_cases x1 : x = 1
      · subst x1
        have KB := Lib.hid (V4.out.alloc (.cells (bases9.map Value.string).toArray 9))
        have R4 := Lib.hid (row_new w4 bases9 9)
        go_wp2_with fail
        refine (pick g A n c (some ⟨w4.heap.size, 0, none⟩) 3 3 bases9 rfl (by decide) (by omega) _ KB.out.2.2.2.1 R4.out (fun b e => by injection e with e; subst e; show w4.heap.size ≠ g; omega)).mono ?_
        rintro e w5 ⟨t, ht, rfl, hL⟩
        have ht2 := bases9_size t ht
        have VV := Lib.hid (KB.out.call hgl hh hL.kept)
        have v0 := VV.out.2.2.1.cell 0 (.bool p) rfl
        have v1 := VV.out.2.2.1.cell 1 (.slice G hs.length cg) rfl
        have v2 := VV.out.2.2.1.cell 2 (.string b) rfl
        have f2 := VV.out.2.2.1.frozen 2
        have V5 := Lib.hid (show Bent9 w g A n c h p (.slice G hs.length cg) t hs (w5.setCell ⟨h, 2, none⟩ (.string t)) from
          ⟨VV.out.1.set (by simp) 2 _, VV.out.2.1.other (p := ⟨h, 2, none⟩) (by show w.heap.size ≠ h; omega) _, by simpa using VV.out.2.2.1.set 2 (.string t), VV.out.2.2.2.set hgl (p := ⟨h, 2, none⟩) (Nat.le_of_lt hh) _⟩)
        clear hL ht KB R4
        go_wp2_with fail
        go_meet
        exact ⟨rfl, _, _, _, _, _, m9 ⟨HA.out.1, HA.out.2.1, ht2⟩, V5.out⟩
      · have x1' : (x == 1) = false := by simpa using x1
        by_cases x2 : x = 2
        · subst x2
          go_upto_region 8 with fail
          have KA := Lib.hid ((V4.out.alloc (Obj.cells #[Value.int .i64 0, Value.int .i64 1, Value.int .i64 1000001] 3)).drew)
          have KB := Lib.hid (((V4.out.alloc (Obj.cells #[Value.int .i64 0, Value.int .i64 1, Value.int .i64 1000001] 3)).alloc (Obj.cells #[Value.string ⟨#[110]⟩, Value.string ⟨#[120, 115]⟩, Value.string ⟨#[49]⟩] 9)).drew)
          have KC := Lib.hid (((V4.out.alloc (Obj.cells #[Value.string ⟨#[110]⟩, Value.string ⟨#[120, 115]⟩, Value.string ⟨#[49]⟩] 9)).alloc (Obj.cells #[Value.int .i64 0, Value.int .i64 1, Value.int .i64 1000001] 3)).drew)
          have RA := Lib.hid (show IRow (w4.alloc (Obj.cells #[Value.int .i64 0, Value.int .i64 1, Value.int .i64 1000001] 3)).drew (some ⟨w4.heap.size, 0, none⟩) coefs9 from irow_new w4 coefs9 3)
          have RB0 : IRow ((w4.alloc (Obj.cells #[Value.int .i64 0, Value.int .i64 1, Value.int .i64 1000001] 3)).alloc (Obj.cells #[Value.string ⟨#[110]⟩, Value.string ⟨#[120, 115]⟩, Value.string ⟨#[49]⟩] 9)) (some ⟨w4.heap.size, 0, none⟩) coefs9 := (irow_new w4 coefs9 3).only (B := none) (StrK.only_below ((Below.refl _ _).alloc (Nat.le_refl _) _) none) (fun a b e e' => by cases e')
          have RB := Lib.hid (show IRow ((w4.alloc (Obj.cells #[Value.int .i64 0, Value.int .i64 1, Value.int .i64 1000001] 3)).alloc (Obj.cells #[Value.string ⟨#[110]⟩, Value.string ⟨#[120, 115]⟩, Value.string ⟨#[49]⟩] 9)).drew (some ⟨w4.heap.size, 0, none⟩) coefs9 from RB0)
          clear RB0
          have SB := row_new (w4.alloc (Obj.cells #[Value.int .i64 0, Value.int .i64 1, Value.int .i64 1000001] 3)) terms9 9
          rw [World.size_alloc] at SB
          have SB := Lib.hid (show StrK.SRow ((w4.alloc (Obj.cells #[Value.int .i64 0, Value.int .i64 1, Value.int .i64 1000001] 3)).alloc (Obj.cells #[Value.string ⟨#[110]⟩, Value.string ⟨#[120, 115]⟩, Value.string ⟨#[49]⟩] 9)).drew (some ⟨w4.heap.size + 1, 0, none⟩) terms9 from SB)
          have RC := irow_new (w4.alloc (Obj.cells #[Value.string ⟨#[110]⟩, Value.string ⟨#[120, 115]⟩, Value.string ⟨#[49]⟩] 9)) coefs9 3
          rw [World.size_alloc] at RC
          have RC := Lib.hid (show IRow ((w4.alloc (Obj.cells #[Value.string ⟨#[110]⟩, Value.string ⟨#[120, 115]⟩, Value.string ⟨#[49]⟩] 9)).alloc (Obj.cells #[Value.int .i64 0, Value.int .i64 1, Value.int .i64 1000001] 3)).drew (some ⟨w4.heap.size + 1, 0, none⟩) coefs9 from RC)
          have SC0 : StrK.SRow ((w4.alloc (Obj.cells #[Value.string ⟨#[110]⟩, Value.string ⟨#[120, 115]⟩, Value.string ⟨#[49]⟩] 9)).alloc (Obj.cells #[Value.int .i64 0, Value.int .i64 1, Value.int .i64 1000001] 3)) (some ⟨w4.heap.size, 0, none⟩) terms9 := (row_new w4 terms9 9).below ((Below.refl _ _).alloc (Nat.le_refl _) _)
          have SC := Lib.hid (show StrK.SRow ((w4.alloc (Obj.cells #[Value.string ⟨#[110]⟩, Value.string ⟨#[120, 115]⟩, Value.string ⟨#[49]⟩] 9)).alloc (Obj.cells #[Value.int .i64 0, Value.int .i64 1, Value.int .i64 1000001] 3)).drew (some ⟨w4.heap.size, 0, none⟩) terms9 from SC0)
          clear SC0
          have PA := Lib.hid (show Calls Tryz.prog 38 #[.pointer (some ⟨g, 0, none⟩), .slice (some ⟨w4.heap.size, 0, none⟩) 3 3] (w4.alloc (Obj.cells #[Value.int .i64 0, Value.int .i64 1, Value.int .i64 1000001] 3)).drew (OneInt coefs9 (w4.alloc (Obj.cells #[Value.int .i64 0, Value.int .i64 1, Value.int .i64 1000001] 3)).drew g A n c) from pickInt g A n c (some ⟨w4.heap.size, 0, none⟩) 3 3 coefs9 rfl (by decide) (by omega) _ KA.out.2.2.2.1 RA.out (fun b e => by injection e with e; subst e; show w4.heap.size ≠ g; omega))
          have PB := Lib.hid (show Calls Tryz.prog 38 #[.pointer (some ⟨g, 0, none⟩), .slice (some ⟨w4.heap.size, 0, none⟩) 3 3] ((w4.alloc (Obj.cells #[Value.int .i64 0, Value.int .i64 1, Value.int .i64 1000001] 3)).alloc (Obj.cells #[Value.string ⟨#[110]⟩, Value.string ⟨#[120, 115]⟩, Value.string ⟨#[49]⟩] 9)).drew (OneInt coefs9 ((w4.alloc (Obj.cells #[Value.int .i64 0, Value.int .i64 1, Value.int .i64 1000001] 3)).alloc (Obj.cells #[Value.string ⟨#[110]⟩, Value.string ⟨#[120, 115]⟩, Value.string ⟨#[49]⟩] 9)).drew g A n c) from pickInt g A n c (some ⟨w4.heap.size, 0, none⟩) 3 3 coefs9 rfl (by decide) (by omega) _ KB.out.2.2.2.1 RB.out (fun b e => by injection e with e; subst e; show w4.heap.size ≠ g; omega))
          have PC := Lib.hid (show Calls Tryz.prog 38 #[.pointer (some ⟨g, 0, none⟩), .slice (some ⟨w4.heap.size + 1, 0, none⟩) 3 3] ((w4.alloc (Obj.cells #[Value.string ⟨#[110]⟩, Value.string ⟨#[120, 115]⟩, Value.string ⟨#[49]⟩] 9)).alloc (Obj.cells #[Value.int .i64 0, Value.int .i64 1, Value.int .i64 1000001] 3)).drew (OneInt coefs9 ((w4.alloc (Obj.cells #[Value.string ⟨#[110]⟩, Value.string ⟨#[120, 115]⟩, Value.string ⟨#[49]⟩] 9)).alloc (Obj.cells #[Value.int .i64 0, Value.int .i64 1, Value.int .i64 1000001] 3)).drew g A n c) from pickInt g A n c (some ⟨w4.heap.size + 1, 0, none⟩) 3 3 coefs9 rfl (by decide) (by omega) _ KC.out.2.2.2.1 RC.out (fun b e => by injection e with e; subst e; show w4.heap.size + 1 ≠ g; omega))
          have v0 := V4.out.2.2.1.cell 0 (.bool p) rfl
          have v1 := V4.out.2.2.1.cell 1 (.slice G hs.length cg) rfl
          have v2 := V4.out.2.2.1.cell 2 (.string b) rfl
          have hl2 := HA.out.1
          have hlt4 : h < w4.heap.size := by omega
          have hlt4' : h < w4.heap.size + 1 := by omega
          clear RA RB RC
          go_region_law (first
            | (refine step_append_where rfl _ _ _ rfl 50 i0 (.agg #[.int .i64 0, .slice none 0 0]) 2 32 0 hu.out HI.out HZ0.out HZ1.out HZ2.out rfl (by decide) (.slice G hs.length cg) hs.length (cells es) rfl OW.out ⟨w6.heap.size + 1, 0, none⟩ 1 1 [.int .i64 0, .slice (some ⟨w6.heap.size, 0, none⟩) 1 1] rfl rfl (World.news_of_block (cs := #[.int .i64 0, .slice (some ⟨w6.heap.size, 0, none⟩) 1 1]) NB.out) (by simp [Value.oneCell']) (by unfold maxLen; omega) (by omega) (Nat.zero_le _) ?_; intro v8 w8 hown8 hgrow8 hwh8; (obtain ⟨A8, c8, rfl, _, _, _, _⟩ := RowK.of_own hown8); (have NX := NXT.out _ _ hown8 hgrow8 hwh8); (have q1 := NX.2.cell 1 (.slice G hs.length cg) rfl); (have qp := NX.2.frozen 1); (have V5 := Lib.hid NX.1); clear NX hown8 hgrow8 hwh8)
            | (go_simp; first
              | (go_at_call 37; (with_reducible refine (Calls.mono PQ.out) ?_); rintro e w6 ⟨t, ht, rfl, hL6⟩; (have ht2 := terms9_size t ht); (have W6 := Lib.hid (HK6.out _ hL6.kept)); (have h6 := W6.out.2.2.1.lt); (have h6' : h < w6.heap.size + 1 := by omega); (have z1 := W6.out.2.2.1.cell 1 (.slice G hs.length cg) rfl); (obtain ⟨es, hes, hown, he, hn, hog, hdis⟩ := W6.out.1); (have hown : w6.ownsRow 0 50 2 (.slice G hs.length cg) hs.length (cells es) := hown); (have OW := Lib.hid ((hown.alloc (Obj.cells #[.int .i64 z, .string t] 60)).alloc (Obj.cells #[.int .i64 0, .slice (some ⟨w6.heap.size, 0, none⟩) 1 1] 50))); (have NB := new_block w6 (Obj.cells #[.int .i64 z, .string t] 60) #[.int .i64 0, .slice (some ⟨w6.heap.size, 0, none⟩) 1 1] 50); (have NB := Lib.hid NB); (have SI := sum_in (z := 0) (xs := [(z, t)]) ((World.ownsRow_lit (base := w6.heap.size) (e := 60) (size := 2) w6 #[.int .i64 z, .string t] 1 (Nat.le_refl _) (by decide) rfl).alloc (Obj.cells #[.int .i64 0, .slice (some ⟨w6.heap.size, 0, none⟩) 1 1] 50))); (obtain ⟨fpx, x1, x2, x3⟩ := SI); (have NXT := Lib.hid (fun W8 v8 ho hg8 hv => Bent9.more (W8 := W8) (v := v8) W6.out hgl hh (((Below.refl _ _).alloc (Nat.le_refl _) (Obj.cells #[.int .i64 z, .string t] 60)).alloc (by simp) (Obj.cells #[.int .i64 0, .slice (some ⟨w6.heap.size, 0, none⟩) 1 1] 50)) hes he hn hog hdis hown x1 x2 x3 ho hg8 hv)); clear hes hown he hn hog hdis x1 x2 x3 hL6 ht PQ HK6)
              | (go_at_call 38; first
                | ((with_reducible refine (Calls.mono PA.out) ?_); rintro e w5 ⟨z, _, rfl, hL5⟩; (have W5 := Lib.hid (KA.out.call hgl hh hL5.kept)); (have h5 := W5.out.2.2.1.lt); (have h5' : h < w5.heap.size + 1 := by omega); (have y1 := W5.out.2.2.1.cell 1 (.slice G hs.length cg) rfl); (have s5 := hL5.kept.2.size); (have s5 : w4.heap.size + 1 ≤ w5.heap.size := by simp [World.drew] at s5; omega); (have PQ := Lib.hid (show Calls Tryz.prog 37 #[.pointer (some ⟨g, 0, none⟩), .slice (some ⟨w5.heap.size, 0, none⟩) 3 3] (w5.alloc (Obj.cells #[Value.string ⟨#[110]⟩, Value.string ⟨#[120, 115]⟩, Value.string ⟨#[49]⟩] 9)) (OneOf terms9 (w5.alloc (Obj.cells #[Value.string ⟨#[110]⟩, Value.string ⟨#[120, 115]⟩, Value.string ⟨#[49]⟩] 9)) g A n c) from pick g A n c (some ⟨w5.heap.size, 0, none⟩) 3 3 terms9 rfl (by decide) (by omega) _ (W5.out.alloc (Obj.cells #[Value.string ⟨#[110]⟩, Value.string ⟨#[120, 115]⟩, Value.string ⟨#[49]⟩] 9)).2.2.2.1 (row_new w5 terms9 9) (fun b e => by injection e with e; subst e; show w5.heap.size ≠ g; omega))); (have HK6 := Lib.hid (fun W' (k : Kept (w5.alloc (Obj.cells #[Value.string ⟨#[110]⟩, Value.string ⟨#[120, 115]⟩, Value.string ⟨#[49]⟩] 9)) g A n c W') => (W5.out.alloc (Obj.cells #[Value.string ⟨#[110]⟩, Value.string ⟨#[120, 115]⟩, Value.string ⟨#[49]⟩] 9)).call hgl hh k)); clear hL5)
                | ((with_reducible refine (Calls.mono PB.out) ?_); rintro e w5 ⟨z, _, rfl, hL5⟩; (have W5 := Lib.hid (KB.out.call hgl hh hL5.kept)); (have h5 := W5.out.2.2.1.lt); (have h5' : h < w5.heap.size + 1 := by omega); (have y1 := W5.out.2.2.1.cell 1 (.slice G hs.length cg) rfl); (have s5 := hL5.kept.2.size); (have s5 : w4.heap.size + 1 ≤ w5.heap.size := by simp [World.drew] at s5; omega); (have PQ := Lib.hid (show Calls Tryz.prog 37 #[.pointer (some ⟨g, 0, none⟩), .slice (some ⟨w4.heap.size + 1, 0, none⟩) 3 3] w5 (OneOf terms9 w5 g A n c) from pick g A n c (some ⟨w4.heap.size + 1, 0, none⟩) 3 3 terms9 rfl (by decide) (by omega) _ W5.out.2.2.2.1 (srow_mod SB.out hL5.kept.2 (fun a e => by injection e with e; subst e; show w4.heap.size + 1 < g ∨ g + 1 ≤ w4.heap.size + 1; omega)) (fun b e => by injection e with e; subst e; show w4.heap.size + 1 ≠ g; omega))); (have HK6 := Lib.hid (fun W' (k : Kept w5 g A n c W') => W5.out.call hgl hh k)); clear hL5)
                | ((with_reducible refine (Calls.mono PC.out) ?_); rintro e w5 ⟨z, _, rfl, hL5⟩; (have W5 := Lib.hid (KC.out.call hgl hh hL5.kept)); (have h5 := W5.out.2.2.1.lt); (have h5' : h < w5.heap.size + 1 := by omega); (have y1 := W5.out.2.2.1.cell 1 (.slice G hs.length cg) rfl); (have s5 := hL5.kept.2.size); (have s5 : w4.heap.size + 1 ≤ w5.heap.size := by simp [World.drew] at s5; omega); (have PQ := Lib.hid (show Calls Tryz.prog 37 #[.pointer (some ⟨g, 0, none⟩), .slice (some ⟨w4.heap.size, 0, none⟩) 3 3] w5 (OneOf terms9 w5 g A n c) from pick g A n c (some ⟨w4.heap.size, 0, none⟩) 3 3 terms9 rfl (by decide) (by omega) _ W5.out.2.2.2.1 (srow_mod SC.out hL5.kept.2 (fun a e => by injection e with e; subst e; show w4.heap.size < g ∨ g + 1 ≤ w4.heap.size; omega)) (fun b e => by injection e with e; subst e; show w4.heap.size ≠ g; omega))); (have HK6 := Lib.hid (fun W' (k : Kept w5 g A n c W') => W5.out.call hgl hh k)); clear hL5))))
          all_goals
            go_wp2_with fail
            go_meet
            exact ⟨rfl, _, _, _, _, _, ⟨by simp; omega, fun y hy => (List.mem_append.1 hy).elim (fun h => (m9 HA.out).2.1 y h) (fun h => by rw [List.mem_singleton.1 h]; exact ⟨by simp, fun t9 h9 => by rw [List.mem_singleton.1 h9]; exact ht2⟩), HA.out.2.2⟩, cast9 V5.out⟩
        · have x2' : (x == 2) = false := by simpa using x2
          by_cases x3 : x = 3
          · subst x3
            by_cases h0 : hs = []
            · subst h0
              have V5 := V4
              have v1 := V4.out.2.2.1.cell 1 (.slice G ([] : List Sm).length cg) rfl
              simp only [List.length_nil] at v1
              go_wp2_with fail
              go_meet
              exact ⟨rfl, _, _, _, _, _, m9 HA.out, V5.out⟩
            · obtain ⟨es, R4⟩ : ∃ es, Row9 w h (.slice G hs.length cg) hs es w4 := V4.out.1
              cases es with
              | nil => exact absurd R4.1.symm h0
              | cons e0 rest =>
                obtain ⟨fp0, cs0, z0, xs0⟩ := e0
                obtain ⟨vv, ec, ho0, _⟩ := R4.2.2.1 _ List.mem_cons_self
                simp only at ec ho0
                subst ec
                obtain ⟨G0, c0, rfl, _, _, _, _⟩ := RowK.of_own ho0
                have hpos : 0 < hs.length := List.length_pos_iff.2 h0
                obtain ⟨b0, cu, eg, _, hb0⟩ := World.ownsRow.form R4.2.1 hpos
                injection eg with eg1 eg2 eg3
                subst eg1
                subst eg3
                have hx0' := HA.out.2.1 (z0, xs0) (by rw [← R4.1]; exact List.mem_cons_self)
                have hxl : xs0.length ≤ 1 := hx0'.1
                have cc1 : w4.cell? ⟨b0, 1, none⟩ = some (.slice G0 xs0.length c0) := by
                  have := R4.2.1.cellAt 1 (by show 1 < hs.length * 2; omega)
                  rw [this]
                  rfl
                have hb0h := R4.2.2.2.2.1 b0 rfl
                have hbne : b0 ≠ h := hb0h.2
                have hbne' : h ≠ b0 := fun e => hbne e.symm
                have hpi : (0 : Int) < (hs.length : Int) := by omega
                have hd : decide ((0 : Int) < (hs.length : Int)) = true := decide_eq_true hpi
                have hd' : decide (0 < hs.length) = true := decide_eq_true hpos
                obtain ⟨i9, hi9, hy0, hy1, hy2⟩ := info_parts termInfo9
                have HI9 := Lib.hid hi9
                have HY0 := Lib.hid hy0
                have HY1 := Lib.hid hy1
                have HY2 := Lib.hid hy2
                have ht9 := Lib.hid Tryz.underlying48
                have v1 := V4.out.2.2.1.cell 1 (.slice (some ⟨b0, 0, none⟩) hs.length cg) rfl
                have hlt4 : h < w4.heap.size := by omega
                have hlt4' : h < w4.heap.size + 1 := by omega
                have hb4' : b0 < w4.heap.size + 1 := by omega
                have KM := Lib.hid (V4.out.alloc (Obj.cells #[Value.string ⟨#[122]⟩, Value.string ⟨#[97]⟩] 9)).drew
                have KM2 := Lib.hid ((V4.out.alloc (Obj.cells #[Value.string ⟨#[122]⟩, Value.string ⟨#[97]⟩] 9)).drew.2.2)
                have RM := Lib.hid (show Row9 w h (.slice (some ⟨b0, 0, none⟩) hs.length cg) hs ((fp0, [.int .i64 z0, .slice G0 xs0.length c0], (z0, xs0)) :: rest) (w4.alloc (Obj.cells #[Value.string ⟨#[122]⟩, Value.string ⟨#[97]⟩] 9)).drew from R4.below (((Below.refl _ _).alloc (Nat.le_refl _) (Obj.cells #[Value.string ⟨#[122]⟩, Value.string ⟨#[97]⟩] 9)).drew))
                have PM := Lib.hid (show Calls Tryz.prog 37 #[.pointer (some ⟨g, 0, none⟩), .slice (some ⟨w4.heap.size, 0, none⟩) 2 2] (w4.alloc (Obj.cells #[Value.string ⟨#[122]⟩, Value.string ⟨#[97]⟩] 9)).drew (OneOf more9 (w4.alloc (Obj.cells #[Value.string ⟨#[122]⟩, Value.string ⟨#[97]⟩] 9)).drew g A n c) from pick g A n c (some ⟨w4.heap.size, 0, none⟩) 2 2 more9 rfl (by decide) (by omega) _ KM.out.2.2.2.1 (show StrK.SRow (w4.alloc (Obj.cells #[Value.string ⟨#[122]⟩, Value.string ⟨#[97]⟩] 9)).drew (some ⟨w4.heap.size, 0, none⟩) more9 from row_new w4 more9 9) (fun b e => by injection e with e; subst e; show w4.heap.size ≠ g; omega))
                have HV := Lib.hid (show (z0, xs0) :: vals rest = hs from R4.1)
                clear hi9 hy0 hy1 hy2 ho0 R4
                go_wp2_with fail
                have hb4 : b0 < w4.heap.size := hb0
                go_region_law
                  (first
                    | (refine step_append_where rfl _ _ _ rfl 60 i9 (.agg #[.int .i64 0, .string ByteArray.empty]) 2 24 0 ht9.out HI9.out HY0.out HY1.out HY2.out rfl (by decide) (.slice G0 xs0.length c0) xs0.length (tcells xs0) rfl OW.out ⟨w6.heap.size, 0, none⟩ 1 1 [.int .i64 1, .string t] rfl rfl (World.news_of_block (cs := #[.int .i64 1, .string t]) (heap_alloc_new w6 _)) (by simp [Value.oneCell']) (by unfold maxLen; omega) (by omega) (Nat.zero_le _) ?_; intro v8 w8 hown8 hgrow8 hwh8; (obtain ⟨A8, c8, rfl, _, _, _, _⟩ := RowK.of_own hown8); (have NX := NXT.out _ _ hown8 hgrow8 hwh8); (have LV := LVG.out _ hgrow8); (have k8 := LV.cell 1 (.slice (some ⟨b0, 0, none⟩) hs.length cg) rfl); (have k9 := (LV.other (p := ⟨b0, 1, none⟩) hbne' (.slice A8 (xs0.length + 1) c8)).cell 1 (.slice (some ⟨b0, 0, none⟩) hs.length cg) rfl); (have c8f := (RFG.out _ hgrow8).1); (have c8c := (RFG.out _ hgrow8).2 hpos); (have s8 := hgrow8.size); (simp only [World.size_alloc] at s8); (have s8' : b0 < w8.heap.size := by omega); (have V5 := Lib.hid NX.1); (have HL8 := Lib.hid NX.2); clear NX hown8 hgrow8 hwh8)
                    | (go_simp; go_at_call 37; (with_reducible refine (Calls.mono PM.out) ?_); rintro e w6 ⟨t, ht, rfl, hL6⟩; (have ht2 := more9_size t ht); (have W6 := Lib.hid (KM.out.call hgl hh hL6.kept)); (have R6 := RM.out.call hgl hL6.kept); (have h6 := W6.out.2.2.1.lt); (have h6' : h < w6.heap.size + 1 := by omega); (have z1 := W6.out.2.2.1.cell 1 (.slice (some ⟨b0, 0, none⟩) hs.length cg) rfl); (obtain ⟨v9, e9, ho9, _⟩ := R6.2.2.1 _ List.mem_cons_self); (simp only at e9 ho9); (obtain rfl : Value.slice G0 xs0.length c0 = v9 := by injection e9 with _ e9; injection e9); (have cc6 : w6.cell? ⟨b0, 1, none⟩ = some (.slice G0 xs0.length c0) := by (have := R6.2.1.cellAt 1 (by show 1 < hs.length * 2; omega)); rw [this]; rfl); (have hb6 : b0 < w6.heap.size := (R6.2.1.lt b0 rfl).2); (have hb6' : b0 < w6.heap.size + 1 := by omega); (have z2 : (w6.alloc (Obj.cells #[.int .i64 1, .string t] 60)).cell? ⟨h, 1, none⟩ = some (.slice (some ⟨b0, 0, none⟩) hs.length cg) := (W6.out.2.2.1.alloc _).cell 1 (.slice (some ⟨b0, 0, none⟩) hs.length cg) rfl); (have OW := Lib.hid (ho9.alloc (Obj.cells #[.int .i64 1, .string t] 60))); (have NXT := Lib.hid (fun W8 v8 ho hg8 hv => Bent9.first (W8 := W8) (v8 := v8) (t := (1, t)) (us := [.int .i64 1, .string t]) R6 W6.out.2.1 W6.out.2.2.1 W6.out.2.2.2 hgl hh ((Below.refl _ _).alloc (Nat.le_refl _) (Obj.cells #[.int .i64 1, .string t] 60)) (by simp [tcells]) ho hg8 hv)); (have HNE := R6.2.2.2.2.2); (have LVG := Lib.hid (fun W8 (hg8 : (w6.alloc (Obj.cells #[.int .i64 1, .string t] 60)).grownBy W8 (Value.slice G0 xs0.length c0).ownBlock) => lvar_grown (W6.out.2.2.1.alloc (Obj.cells #[.int .i64 1, .string t] 60)) hg8 (nh9 R6))); (have RFG := Lib.hid (fun W8 (hg8 : (w6.alloc (Obj.cells #[.int .i64 1, .string t] 60)).grownBy W8 (Value.slice G0 xs0.length c0).ownBlock) => rf9 R6 hg8)); clear ho9 HNE hL6 ht R6))
                all_goals
                  go_wp2_with fail
                  go_meet
                  exact ⟨rfl, _, _, _, _, _, ⟨by rw [HL8.out]; have := HA.out.1; omega, fun y hy => a9 HA.out hxl hx0'.2 ht2 HV.out hy, HA.out.2.2⟩, cast8 HL8.out V5.out⟩
          · have x3' : (x == 3) = false := by simpa using x3
            have V5 := V4
            have v0 := V5.out.2.2.1.cell 0 (.bool p) rfl
            go_wp2_with fail
            go_meet
            exact ⟨rfl, _, _, _, _, _, m9 HA.out, V5.out⟩
  case rest =>
    obtain ⟨rfl, p', A8, c8, b', hs', hA', V5'⟩ := hcut
    have V5 := Lib.hid V5'
    have HA' := Lib.hid hA'
    clear V5' V4 hA' HA
    have u0 := V5.out.2.2.1.cell 0 (.bool p') rfl
    have u1 := V5.out.2.2.1.cell 1 (.slice A8 hs'.length c8) rfl
    have u2 := V5.out.2.2.1.cell 2 (.string b') rfl
    have l0 := V5.out.2.1.cell 0 (.bool false) rfl
    have l1 := V5.out.2.1.cell 1 (.slice none 0 0) rfl
    have l2 := V5.out.2.1.cell 2 (.string ByteArray.empty) rfl
    have p0 := V5.out.2.1.frozen 0
    have p1 := V5.out.2.1.frozen 1
    have p2 := V5.out.2.1.frozen 2
    have F := Lib.hid (V5.out.fin hgl (HA'.out))
    go_wp2
    exact bodyPost_ret (v := .agg #[.bool p', .slice A8 hs'.length c8, .string b']) (by simp [results, Tryz.results18, go_sem, l0, l1, l2]) rfl F.out
end Draw
end Go.Proofs.YtiilopfhlmeaoaaGreatDoor
