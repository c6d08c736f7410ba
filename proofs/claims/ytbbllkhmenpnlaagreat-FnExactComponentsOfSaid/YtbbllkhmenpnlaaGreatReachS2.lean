import Derived.Test.YtbbllkhmenpnlaaGreatReachOf
import Derived.Test.YtbbllkhmenpnlaaGreatEdgeS
import Derived.Deep.RegionHeld3
/-
  The names of the functions, of the model; what has been met (made by tools/s13s.py).
-/
namespace Go.Proofs.YtbbllkhmenpnlaaGreat
open Go.RowKit
def oReachS2O21 : Oper := { dst := some 62, op := Op.pick (Operand.tmp 52) (Operand.tmp 61) (Operand.const (Value.bool false)), type := 4, pos := "l13_graph.go:40", after := #[{ on := 11, ground := Ground.data }, { on := 20, ground := Ground.data }], guard := none }
def oReachS2O20 : Oper := { dst := some 61, op := Op.binOp BinOp.lss 3 (Operand.tmp 60) (Operand.const (Value.int IntKind.i64 0)) 3, type := 4, pos := "l13_graph.go:40", after := #[{ on := 19, ground := Ground.data }, { on := 11, ground := Ground.guard }], guard := some (11, true) }
def oReachS2O19 : Oper := { dst := some 60, op := Op.call { callee := Callee.value (Operand.func 17), args := #[Operand.tmp 53, Operand.tmp 59], argTypes := #[31, 9] }, type := 3, pos := "l13_graph.go:40", after := #[{ on := 12, ground := Ground.data }, { on := 18, ground := Ground.data }, { on := 18, ground := Ground.chain }, { on := 11, ground := Ground.guard }], guard := some (11, true) }
def oReachS2O18 : Oper := { dst := some 59, op := Op.call { callee := Callee.value (Operand.func 65), args := #[Operand.tmp 54, Operand.tmp 58], argTypes := #[27, 50] }, type := 9, pos := "l13_graph.go:40", after := #[{ on := 13, ground := Ground.data }, { on := 17, ground := Ground.data }, { on := 11, ground := Ground.chain }, { on := 11, ground := Ground.guard }], guard := some (11, true) }
def oReachS2O17 : Oper := { dst := some 58, op := Op.load 50 (Operand.tmp 57), type := 50, pos := "l13_graph.go:40", after := #[{ on := 16, ground := Ground.data }, { on := 11, ground := Ground.guard }], guard := some (11, true) }
def oReachS2O16 : Oper := { dst := some 57, op := Op.indexAddr 37 (Operand.tmp 55) (Operand.tmp 56), type := 0, pos := "l13_graph.go:40", after := #[{ on := 14, ground := Ground.data }, { on := 15, ground := Ground.data }, { on := 11, ground := Ground.guard }], guard := some (11, true) }
def oReachS2O15 : Oper := { dst := some 56, op := Op.move (Operand.tmp 10), type := 3, pos := "l13_graph.go:40", after := #[{ on := 11, ground := Ground.guard }], guard := some (11, true) }
def oReachS2O14 : Oper := { dst := some 55, op := Op.move (Operand.tmp 6), type := 37, pos := "l13_graph.go:40", after := #[{ on := 11, ground := Ground.guard }], guard := some (11, true) }
def oReachS2O13 : Oper := { dst := some 54, op := Op.load 27 (Operand.tmp 2), type := 27, pos := "l13_graph.go:40", after := #[{ on := 11, ground := Ground.guard }], guard := some (11, true) }
def oReachS2O12 : Oper := { dst := some 53, op := Op.move (Operand.tmp 8), type := 31, pos := "l13_graph.go:40", after := #[{ on := 11, ground := Ground.guard }], guard := some (11, true) }
def oReachS2O11 : Oper := { dst := some 52, op := Op.move (Operand.tmp 51), type := 4, pos := "l13_graph.go:40", after := #[{ on := 10, ground := Ground.data }, { on := 5, ground := Ground.chain }], guard := none }
def oReachS2O10 : Oper := { dst := some 51, op := Op.binOp BinOp.eql 9 (Operand.tmp 46) (Operand.tmp 50) 9, type := 4, pos := "l13_graph.go:40", after := #[{ on := 5, ground := Ground.data }, { on := 9, ground := Ground.data }], guard := none }
def oReachS2O9 : Oper := { dst := some 46, op := Op.call { callee := Callee.value (Operand.func 64), args := #[Operand.tmp 41, Operand.tmp 45], argTypes := #[27, 50] }, type := 9, pos := "l13_graph.go:40", after := #[{ on := 0, ground := Ground.data }, { on := 4, ground := Ground.data }], guard := none }
def oReachS2O8 : Oper := { dst := some 50, op := Op.load 9 (Operand.tmp 49), type := 9, pos := "l13_graph.go:40", after := #[{ on := 8, ground := Ground.data }], guard := none }
def oReachS2O7 : Oper := { dst := some 49, op := Op.indexAddr 31 (Operand.tmp 47) (Operand.tmp 48), type := 0, pos := "l13_graph.go:40", after := #[{ on := 6, ground := Ground.data }, { on := 7, ground := Ground.data }], guard := none }
def oReachS2O6 : Oper := { dst := some 48, op := Op.move (Operand.tmp 9), type := 3, pos := "l13_graph.go:40", after := #[], guard := none }
def oReachS2O5 : Oper := { dst := some 47, op := Op.move (Operand.tmp 8), type := 31, pos := "l13_graph.go:40", after := #[], guard := none }
def oReachS2O4 : Oper := { dst := some 45, op := Op.load 50 (Operand.tmp 44), type := 50, pos := "l13_graph.go:40", after := #[{ on := 3, ground := Ground.data }], guard := none }
def oReachS2O3 : Oper := { dst := some 44, op := Op.indexAddr 37 (Operand.tmp 42) (Operand.tmp 43), type := 0, pos := "l13_graph.go:40", after := #[{ on := 1, ground := Ground.data }, { on := 2, ground := Ground.data }], guard := none }
def oReachS2O2 : Oper := { dst := some 43, op := Op.move (Operand.tmp 10), type := 3, pos := "l13_graph.go:40", after := #[], guard := none }
def oReachS2O1 : Oper := { dst := some 42, op := Op.move (Operand.tmp 6), type := 37, pos := "l13_graph.go:40", after := #[], guard := none }
def oReachS2O0 : Oper := { dst := some 41, op := Op.load 27 (Operand.tmp 2), type := 27, pos := "l13_graph.go:40", after := #[], guard := none }
namespace GraphM
open RowK Mem
def MetL (ns : Nm) (G : Arrows) (a : ByteArray) (k : Nat) (met : Nm) : Prop := met.Nodup ∧ (∀ x ∈ met, x ∈ ns ∧ Rch G a x) ∧ a ∈ met ∧ ∀ i, i < k → ∀ b c, (b, c) ∈ G → met[i]? = some b → c ∈ met
theorem MetL.start {ns : Nm} {G : Arrows} {a : ByteArray} (h : a ∈ ns) : MetL ns G a 0 [a] :=
 ⟨by simp, (fun x hx => by rw [List.mem_singleton.1 hx]; exact ⟨h, .refl⟩), by simp, (fun i hi => by omega)⟩
theorem nodup_len : ∀ {xs ys : Nm}, xs.Nodup → (∀ x ∈ xs, x ∈ ys) → xs.length ≤ ys.length
 | [], _, _, _ => Nat.zero_le _
 | x :: xs, ys, h, hs => by
  obtain ⟨h1, h2⟩ := List.nodup_cons.1 h
  obtain ⟨l1, l2, rfl⟩ := List.append_of_mem (hs x List.mem_cons_self)
  have ih := nodup_len (ys := l1 ++ l2) h2 (fun y hy => by
   have h3 := hs y (List.mem_cons_of_mem _ hy)
   rcases List.mem_append.1 h3 with h3 | h3
   ·exact List.mem_append_left _ h3
   ·rcases List.mem_cons.1 h3 with rfl | h3
    ·exact absurd hy h1
    ·exact List.mem_append_right _ h3)
  simp only [List.length_append, List.length_cons] at ih ⊢
  omega
theorem MetL.len {ns : Nm} {G : Arrows} {a : ByteArray} {k : Nat} {met : Nm} (h : MetL ns G a k met) : met.length ≤ ns.length := by
 exact nodup_len h.1 (fun x hx => (h.2.1 x hx).1)
theorem MetL.add {ns : Nm} {G : Arrows} {a b c : ByteArray} {k : Nat} {met : Nm} (h : MetL ns G a k met) (hb : b ∈ met) (hbc : (b, c) ∈ G) (hc : c ∈ ns) (hn : c ∉ met) (hk : k ≤ met.length) : MetL ns G a k (met ++ [c]) := by
 obtain ⟨h1, h2, h3, h4⟩ := h
 refine ⟨?_, fun x hx => ?_, List.mem_append_left _ h3, fun i hi b' c' hbc' hi' => ?_⟩
 ·rw [List.nodup_append]
  exact ⟨h1, by simp, fun x hx y hy e => by rw [List.mem_singleton.1 hy] at e; subst e; exact hn hx⟩
 ·rcases List.mem_append.1 hx with hx | hx
  ·exact h2 x hx
  ·rw [List.mem_singleton.1 hx]
   exact ⟨hc, (h2 b hb).2.step hbc⟩
 ·rw [List.getElem?_append_left (by omega)] at hi'
  exact List.mem_append_left _ (h4 i hi b' c' hbc' hi')
theorem MetL.next {ns : Nm} {G : Arrows} {a b : ByteArray} {k : Nat} {met : Nm} (h : MetL ns G a k met) (hk : met[k]? = some b) (hb : ∀ c, (b, c) ∈ G → c ∈ met) : MetL ns G a (k + 1) met := by
 obtain ⟨h1, h2, h3, h4⟩ := h
 refine ⟨h1, h2, h3, fun i hi b' c' hbc hi' => ?_⟩
 by_cases e : i = k
 ·subst e
  rw [hk] at hi'
  injection hi' with hi'
  subst hi'
  exact hb c' hbc
 ·exact h4 i (by omega) b' c' hbc hi'
theorem MetL.fin {ns : Nm} {G : Arrows} {a : ByteArray} {met : Nm} {p : ByteArray → Bool} (h : MetL ns G a met.length met) (hp : ∀ x, p x = true ↔ x ∈ met) : ns.filter p = rchL ns G a := by
 obtain ⟨h1, h2, h3, h4⟩ := h
 refine rchL_of (h2 a h3).1 (fun x hx => ⟨fun h => (h2 x ((hp x).1 h)).2, fun h => (hp x).2 ?_⟩)
 exact h.closed (P := fun y => y ∈ met) h3 (fun b c hbc hb => by
  obtain ⟨i, hi, e⟩ := List.getElem_of_mem hb
  exact h4 i hi b c hbc (by rw [List.getElem?_eq_getElem hi, e]))
end GraphM
namespace GraphS
open RowK Mem GraphM ProgM
def NamesB (w : World) (bs : Nat) (PV : Array Value) (v : Value) (done : List ByteArray) (wr : World) : Prop :=
 wr.ownsRow bs 9 1 v done.length (done.map Value.string) ∧ Below w.heap.size w wr ∧ Lvar wr w.heap.size PV ∧ bs ≤ wr.heap.size
theorem NamesB.grow {w wr w0 w5 : World} {bs : Nat} {PV : Array Value} {v v5 : Value} {done : List ByteArray} {e : ByteArray} (h : NamesB w bs PV v done wr) (hbs : w.heap.size + 1 ≤ bs) (hb : Below wr.heap.size wr w0) (hg : w0.grownBy w5 v.ownBlock) (ho : w5.ownsRow bs 9 1 v5 (done.length + 1) (done.map Value.string ++ [.string e])) : NamesB w bs PV v5 (done ++ [e]) w5 := by
 obtain ⟨h1, h2, h3, h4⟩ := h
 exact ⟨by rw [List.map_append, List.length_append]; exact ho, (h2.trans (hb.mono h2.size)).grown hg (Nat.le_trans h2.size hb.size) (fun g e => by have := (h1.lt g e).1; omega), lvar_grown (h3.below hb) hg (fun e => by have := (h1.lt _ e).1; omega), Nat.le_trans h4 (Nat.le_trans hb.size hg.size)⟩
theorem NamesB.below {w wr w' : World} {bs : Nat} {PV : Array Value} {v : Value} {done : List ByteArray} (h : NamesB w bs PV v done wr) (hb : Below wr.heap.size wr w') : NamesB w bs PV v done w' := ⟨own_below h.1 hb, h.2.1.trans (hb.mono h.2.1.size), h.2.2.1.below hb, Nat.le_trans h.2.2.2 hb.size⟩
theorem own_mono {w : World} {base base' size n : Nat} {e : TypeId} {v : Value} {xs : List Value} (h : w.ownsRow base e size v n xs) (hb : base' ≤ base) : w.ownsRow base' e size v n xs := by
 obtain ⟨e, h | ⟨g, cap, cur, a, b, c⟩⟩ := h
 ·exact ⟨e, Or.inl h⟩
 ·exact ⟨e, Or.inr ⟨g, cap, cur, a, by omega, c⟩⟩
theorem NamesB.gave {w wr : World} {bs : Nat} {PV : Array Value} {v : Value} {done : List ByteArray} (h : NamesB w bs PV v done wr) (hbs : w.heap.size + 1 ≤ bs) : ProgI.GaveS w done (.returned v) wr :=
 ProgI.gave_own (own_mono h.1 (by omega)) h.2.1
set_option maxHeartbeats 4000000 in
set_option maxRecDepth 100000 in
theorem l13Names (A : Option Addr) (VB : Value) (c : Nat) (fs : List FunctionT) (w : World) (hA : ArgS Mem.fn w A fs.length c fs) (hl : fs.length + szs szFunctionU fs ≤ 9000000) :
  Calls Tryz.prog 49 #[.agg #[.slice A fs.length c, VB]] w (ProgI.GaveS w (names fs)) := by
 obtain ⟨i0, hi, hz0, hz1, hz2⟩ := info_parts strInfoU
 have b0 : Below w.heap.size w ((w.alloc (Obj.cells #[Value.slice A fs.length c, VB] 27)).alloc (Obj.cells #[] 9)) := ((Below.refl _ _).alloc (Nat.le_refl _) _).alloc (by simp) _
 have V0 := (Lvar.new w #[Value.slice A fs.length c, VB] 27).alloc (Obj.cells #[] 9)
 have E0 : ((w.alloc (Obj.cells #[Value.slice A fs.length c, VB] 27)).alloc (Obj.cells #[] 9)).heap[w.heap.size + 1]? = some (Obj.cells #[] 9 (0, 0)) := by
  have h9 := heap_alloc_new (w.alloc (Obj.cells #[Value.slice A fs.length c, VB] 27)) (Obj.cells #[] 9)
  simp only [World.size_alloc] at h9
  exact h9
 have HE0 := Lib.hid (show NamesB w (w.heap.size + 1) #[Value.slice A fs.length c, VB] _ [] _ from ⟨ProgS.own_none (size := 1) E0 (Nat.le_refl _), b0, V0, by simp⟩)
 have HA := Lib.hid hA
 have hfl : fs.length ≤ 9000000 := by omega
 clear hA hl b0 V0 E0
 go_enter Tryz.func49, Tryz.ntmps49
 go_wp2
 go_loopw [3, 4] (fun v i wr => ∃ (k : Nat) (done : List ByteArray), k ≤ fs.length ∧ i = .int .i64 k ∧ Hid (done = (fs.take k).map (·.1)) ∧ NamesB w (w.heap.size + 1) #[Value.slice A fs.length c, VB] v done wr) (fun _ i _ => fs.length - (intOf i).toNat)
 case atStart => exact ⟨0, [], Nat.zero_le _, rfl, Lib.hid rfl, HE0.out⟩
 case round =>
  obtain ⟨k, done, hk, rfl, hdone, hN⟩ := hrel
  have HD := Lib.hid hdone.out
  have HN := Lib.hid hN
  have hdl : done.length ≤ 9000000 := by
   rw [HD.out, List.length_map, List.length_take]
   omega
  have q0 : wr.cell? ⟨w.heap.size, 0, none⟩ = some (.slice A fs.length c) := hN.2.2.1.cell 0 _ rfl
  have hbs := hN.2.2.2
  clear hdone hN HE0
  by_cases hlt : k < fs.length
  ·obtain ⟨b1, o1, A1, c1, A3, c3, rfl, hbb, g0, g1, g2, g3, _, _⟩ := (HA.out.below HN.out.2.1).fn_at hlt
   have HST := Lib.hid (names_take fs hlt)
   generalize fs[k].1 = z0 at *
   have hi0 : (0 : Int) ≤ (k : Int) := by omega
   have hi1 : (k : Int) < (fs.length : Int) := by omega
   have HF := Lib.hid (show done ++ [z0] = (fs.take (k + 1)).map (·.1) by rw [HST.out, HD.out])
   have HO := Lib.hid (HN.out.1.alloc (Obj.cells #[Value.string z0] 9))
   have RN := Lib.hid (show Row 0 (wr.alloc (Obj.cells #[Value.string z0] 9)).heap.size (wr.alloc (Obj.cells #[Value.string z0] 9)) (some ⟨wr.heap.size, 0, none⟩) [.string z0] from row_new (heap_alloc_new wr (Obj.cells #[Value.string z0] 9)))
   have hb1 := Lib.hid (show Below wr.heap.size wr (wr.alloc (Obj.cells #[Value.string z0] 9)) from (Below.refl _ _).alloc (Nat.le_refl _) _)
   clear g1 g2 g3
   go_upto_region 4 with (at_builtin; go_loud (refine wpList_append_rowW rfl _ _ _ rfl 9 i0 (.string ByteArray.empty) 1 16 (w.heap.size + 1) Tryz.underlying31 hi hz0 hz1 hz2 rfl (by decide) _ done.length (done.map Value.string) rfl HO.out _ 1 _ [.string z0] rfl rfl RN.out (by simp [Value.oneCell']) (by unfold maxLen; omega) (by omega) (by simp; omega) ?_); intro v5 w5 hown5 hgrow hwh)
   have NN := Lib.hid (HN.out.grow (e := z0) (Nat.le_refl _) hb1.out hgrow hown5)
   clear hown5 hgrow hwh q0 g0
   go_wp2
   go_roundw
   case rel => exact ⟨k + 1, done ++ [z0], by omega, by go_num, HF, NN.out⟩
   case measure => simp [intOf]; omega
  ·obtain rfl : k = fs.length := by omega
   have FIN := Lib.hid (HN.out.gave (Nat.le_refl _))
   have HF := Lib.hid (show names fs = done by rw [HD.out, List.take_length]; rfl)
   go_wp2
   go_ret
   rw [HF.out]
   exact FIN.out
end GraphS
end Go.Proofs.YtbbllkhmenpnlaaGreat

/-
  ReachableFrom of the model (made by tools/s13s.py).
-/
namespace Go.Proofs.YtbbllkhmenpnlaaGreat
open Go.RowKit
namespace GraphS
open RowK Mem GraphM ProgM
def OutR (w w2 w3 : World) (X M : Option Addr) (cx cm : Nat) (ns met : List ByteArray) (lx hx lm : Nat) (v : Value) (done : List ByteArray) (wq : World) : Prop :=
 wq.ownsRow w2.heap.size 9 1 v done.length (done.map Value.string) ∧ Below w.heap.size w wq ∧ OwnS Rep.str lx hx wq X ns.length cx ns ∧ OwnS Rep.str lm w3.heap.size wq M met.length cm met ∧ ∀ g, v.ownBlock = some g → g = w2.heap.size ∨ w3.heap.size ≤ g
theorem OutR.base {w w2 w3 wq : World} {X M : Option Addr} {cx cm : Nat} {ns met : List ByteArray} {lx hx lm : Nat} {v : Value} {done : List ByteArray} (h : OutR w w2 w3 X M cx cm ns met lx hx lm v done wq) : w3.heap.size ≤ wq.heap.size := h.2.2.2.1.1
theorem OutR.grow {w w2 w3 wq w5 : World} {X M : Option Addr} {cx cm : Nat} {ns met : List ByteArray} {lx hx lm : Nat} {v v5 : Value} {done : List ByteArray} {e : ByteArray} (h : OutR w w2 w3 X M cx cm ns met lx hx lm v done wq)
  (hg : (wq.alloc (Obj.cells #[Value.string e] 9)).grownBy w5 v.ownBlock) (ho : w5.ownsRow w2.heap.size 9 1 v5 (done.length + 1) (done.map Value.string ++ [.string e]))
  (hw : v5.ownBlock = v.ownBlock ∨ ∀ g, v5.ownBlock = some g → (wq.alloc (Obj.cells #[Value.string e] 9)).heap.size ≤ g) (h1 : w2.heap.size + 1 ≤ lm) (h2 : hx ≤ w2.heap.size) (h3 : w.heap.size ≤ w2.heap.size ∧ w2.heap.size ≤ w3.heap.size) : OutR w w2 w3 X M cx cm ns met lx hx lm v5 (done ++ [e]) w5 := by
 obtain ⟨k1, k2, k3, k4, k5⟩ := h
 have hb : Below wq.heap.size wq (wq.alloc (Obj.cells #[Value.string e] 9)) := (Below.refl _ _).alloc (Nat.le_refl _) _
 refine ⟨by rw [List.map_append, List.length_append]; exact ho, (k2.trans (hb.mono k2.size)).grown hg (Nat.le_trans k2.size hb.size) (fun g e => by have := k1.lt g e; omega), ownS_grown (OwnS.below k3 hb) hg (fun g e => by have := k5 g e; omega), ownS_grown (OwnS.below k4 hb) hg (fun g e => by have := k5 g e; omega), fun g hg' => ?_⟩
 rcases hw with hw | hw
 ·exact k5 g (by rw [← hw]; exact hg')
 ·have h9 := hw g hg'
  have h8 := k4.1
  rw [World.size_alloc] at h9
  omega
theorem own_one {w : World} {g : Nat} {s : ByteArray} (h : w.heap[g]? = some (Obj.cells #[Value.string s] 9 (0, 0))) : w.ownsRow g 9 1 (.slice (some ⟨g, 0, none⟩) 1 1) 1 ([s].map Value.string) :=
 ⟨by simp, Or.inr ⟨g, 1, #[.string s], rfl, Nat.le_refl _, h, Nat.le_refl _, by unfold maxLen; omega, by simp, by simp⟩⟩
theorem own_str_at {w : World} {base n : Nat} {v : Value} {ss : List ByteArray} (h : w.ownsRow base 9 1 v n (ss.map Value.string)) (hn : n = ss.length) : ∃ A c, v = .slice A ss.length c ∧ StrK.SRow w A ss ∧ (∀ a, A = some a → base ≤ a.block ∧ a.block < w.heap.size) := by
 subst hn
 obtain ⟨B, d, e, h1, h2, h3, h4⟩ := StrK.of_own h
 subst e
 exact ⟨B, d, rfl, h1, fun a ha => by subst ha; exact h.lt a.block rfl⟩
set_option maxHeartbeats 4000000 in
set_option maxRecDepth 100000 in
theorem reachableFrom (A B : Option Addr) (c d : Nat) (fs : List FunctionT) (rs : List RuleT) (nm : ByteArray) (w : World) (hA : ArgS Mem.fn w A fs.length c fs) (hB : ArgS rule w B rs.length d rs) (hl : szProgramU (fs, rs) ≤ 9000000) :
  Calls Tryz.prog 34 #[.agg #[.slice A fs.length c, .slice B rs.length d], .string nm] w (ProgI.GaveS w (@ite _ (progV fs rs = true) _ (rchL (names fs) (arrows rs) nm) [])) := by
 obtain ⟨i0, hi, hz0, hz1, hz2⟩ := info_parts strInfoU
 have b0 : Below w.heap.size w (w.alloc (Obj.cells #[Value.slice A fs.length c, Value.slice B rs.length d] 27)) := (Below.refl _ _).alloc (Nat.le_refl _) _
 have V0 := Lvar.new w #[Value.slice A fs.length c, Value.slice B rs.length d] 27
 have hfl : fs.length + szs szFunctionU fs ≤ 9000000 := by simp only [szProgramU] at hl; omega
 have hrl : rs.length + szs szRuleU rs ≤ 9000000 := by simp only [szProgramU] at hl; omega
 have hf9 : fs.length ≤ 9000000 := by omega
 have NA := Lib.hid (l13Names A (.slice B rs.length d) c fs _ (hA.below b0) hfl)
 have ED := Lib.hid (fun W (h : Below w.heap.size w W) => edgesOf A B c d fs rs W (hA.below h) (hB.below h) hl)
 have PV := Lib.hid (fun W (h : Below w.heap.size w W) => ProgS.validProg A B c d fs rs W (hA.below h) (hB.below h) hl)
 have C1 := Lib.hid (fun (W : World) (h : Below w.heap.size w W) (k i : Nat) (hk : k < rs.length) => callerOf A B fs.length c d rs k i W (hB.below h) hrl hk)
 have C2 := Lib.hid (fun (W : World) (h : Below w.heap.size w W) (k i : Nat) (hk : k < rs.length) (hi : i < rs[k].2.2.2.1.length) => calledBy A B fs.length c d rs k i W (hB.below h) hrl hk hi)
 have hTL : (edgesA rs).length ≤ 9000000 := edgesT_le (Nat.le_refl _) hrl
 have B0 := Lib.hid b0
 have HV := Lib.hid V0
 obtain ⟨R, hR⟩ : ∃ R, R = @ite _ (progV fs rs = true) _ (rchL (names fs) (arrows rs) nm) [] := ⟨_, rfl⟩
 rw [← hR]
 have HR := Lib.hid hR
 clear hA hB b0 V0 hl hfl hrl hR
 go_enter Tryz.func34, Tryz.ntmps34
 go_wp2_with fail
 refine (Calls.mono NA.out) ?_
 rintro e w1 ⟨X, cx, rfl, oX, b1⟩
 have B1 := Lib.hid (below_step B0.out b1)
 have V1 := Lib.hid (HV.out.below b1)
 have OX := Lib.hid oX
 have hnl : (names fs).length ≤ 9000000 := by unfold names; rw [List.length_map]; exact hf9
 have l0 : w1.cell? ⟨w.heap.size, 0, none⟩ = some (.slice A fs.length c) := V1.out.cell 0 _ rfl
 have l1 : w1.cell? ⟨w.heap.size, 1, none⟩ = some (.slice B rs.length d) := V1.out.cell 1 _ rfl
 have ED1 := Lib.hid (ED.out w1 B1.out)
 clear b1 oX HV NA ED
 go_wp2_with fail
 refine (Calls.mono ED1.out) ?_
 rintro e w2 ⟨Y, cy, rfl, oY, b2⟩
 have B2 := Lib.hid (below_step B1.out b2)
 have V2 := Lib.hid (V1.out.below b2)
 have OX2 := Lib.hid (OwnS.below OX.out b2)
 have OY := Lib.hid oY
 have hsz2 := b2.size
 have hww : w.heap.size ≤ w2.heap.size := B2.out.size
 have hsz0 := OX.out.1
 have m0 : w2.cell? ⟨w.heap.size, 0, none⟩ = some (.slice A fs.length c) := V2.out.cell 0 _ rfl
 have m1 : w2.cell? ⟨w.heap.size, 1, none⟩ = some (.slice B rs.length d) := V2.out.cell 1 _ rfl
 have hlw : w.heap.size < w2.heap.size := V2.out.lt
 have d3 : Below w2.heap.size w2 (w2.alloc (Obj.cells #[] 9)) := (Below.refl _ _).alloc (Nat.le_refl _) _
 have E3 : (w2.alloc (Obj.cells #[] 9)).heap[w2.heap.size]? = some (Obj.cells #[] 9 (0, 0)) := heap_alloc_new w2 (Obj.cells #[] 9)
 have O3 := Lib.hid (ProgS.own_none (size := 1) E3 (Nat.le_refl _))
 have PV3 := Lib.hid (PV.out _ (below_step B2.out d3))
 have B3 := Lib.hid (below_step B2.out d3)
 have V3 := Lib.hid (V2.out.below d3)
 have OX3 := Lib.hid (OwnS.below OX2.out d3)
 have OY3 := Lib.hid (OwnS.below OY.out d3)
 have hsz3 := Lib.hid (show w2.heap.size + 1 ≤ (w2.alloc (Obj.cells #[] 9)).heap.size by simp)
 clear b2 oY l0 l1 V1 OX ED1 PV d3 E3 OX2 OY V2
 cases hv : progV fs rs with
 | false =>
  rw [hv] at PV3
  simp only [Bool.false_eq_true, if_false]
  have HF := Lib.hid (show R = [] by rw [HR.out, hv]; rfl)
  clear hv
  go_wp2_with fail
  refine (Calls.mono PV3.out) ?_
  rintro e w4 ⟨rfl, b4⟩
  have B4 := Lib.hid (below_step B3.out b4)
  clear b4
  go_wp2
  go_ret
  rw [HF.out]
  exact ⟨_, _, rfl, OwnS.nil _ _ _ _ (Nat.le_refl _), B4.out⟩
 | true =>
  have HF := Lib.hid (show R = rchL (names fs) (arrows rs) nm by rw [HR.out, hv]; rfl)
  have HVV := Lib.hid hv
  rw [hv] at PV3 OY3
  simp only [if_true] at OY3 ⊢
  clear HR
  clear hv
  have HVE := Lib.hid (valid_ends HVV.out)
  have HM := Lib.hid (fun e (h : e ∈ edgesA rs) => edgesA_at h)
  have HG := Lib.hid (show arrows rs = (edgesA rs).map fun e => (fromE rs e, toE rs e) from rfl)
  generalize edgesA rs = T at *
  generalize arrows rs = G at *
  generalize names fs = ns at *
  go_wp2_with fail
  refine (Calls.mono PV3.out) ?_
  rintro e w4 ⟨rfl, b4⟩
  have B4 := Lib.hid (below_step B3.out b4)
  have V4 := Lib.hid (V3.out.below b4)
  have O4 := Lib.hid (own_below O3.out b4)
  have OX4 := Lib.hid (OwnS.below OX3.out b4)
  have OY4 := Lib.hid (OwnS.below OY3.out b4)
  have hsz4 := Lib.hid (Nat.le_trans hsz3.out b4.size)
  obtain ⟨qx, fpx, hx9⟩ := OX4.out.arg
  have IN := Lib.hid (NameS.specIndex X cx ns nm w4 (strs_open hx9).1 (by omega))
  clear b4 V3 O3 OX3 OY3 hsz3 hx9 m0 m1 hlw
  generalize hY : Lib.idxOfS ns nm = y at *
  by_cases hy : 0 ≤ y
  ·have e1 : decide (y < 0) = false := decide_eq_false (by omega)
   have hmem : nm ∈ ns := (Lib.idxOfS_nonneg_iff ns nm).1 (by rw [hY]; exact hy)
   have MT := Lib.hid (MetL.start (G := G) hmem)
   have HMEM := Lib.hid hmem
   clear hY hy hmem
   go_wp2_with fail
   refine (Calls.mono IN.out) ?_
   rintro e w5 ⟨rfl, rfl⟩
   have ON := Lib.hid (show (w4.alloc (Obj.cells #[Value.string nm] 9)).ownsRow w4.heap.size 9 1 (.slice (some ⟨w4.heap.size, 0, none⟩) 1 1) 1 ([nm].map Value.string) from own_one (heap_alloc_new w4 (Obj.cells #[Value.string nm] 9)))
   have N0 := Lib.hid (show ProgI.Names10 w4 (.slice (some ⟨w4.heap.size, 0, none⟩) 1 1) [nm] (w4.alloc (Obj.cells #[Value.string nm] 9)) from ⟨ON.out, (Below.refl _ _).alloc (Nat.le_refl _) _⟩)
   clear IN ON
   go_wp2
   go_loopw [8, 9] (fun v i wr => ∃ (k : Nat) (met : List ByteArray), k ≤ met.length ∧ i = .int .i64 k ∧ Hid (MetL ns G nm k met) ∧ ProgI.Names10 w4 v met wr) (fun _ i _ => ns.length + 1 - (intOf i).toNat)
   case atStart => exact ⟨0, [nm], Nat.zero_le _, rfl, MT, N0.out⟩
   case round =>
    obtain ⟨k, met, hk, rfl, hmet, hN⟩ := hrel
    have HME := Lib.hid hmet.out
    have HN := Lib.hid hN
    have hml := HME.out.len
    obtain ⟨M, cm, rfl, hMr, hMb⟩ := own_str_at hN.1 rfl
    have HMR := Lib.hid hMr
    have HMB := Lib.hid hMb
    clear hmet hN N0 MT hMr hMb
    by_cases hlt : k < met.length
    ·obtain ⟨z0, hz⟩ : ∃ z, met[k]? = some z := ⟨_, List.getElem?_eq_getElem hlt⟩
     have HZ := Lib.hid hz
     clear hz
     have hi0 : (0 : Int) ≤ (k : Int) := by omega
     have hi1 : (k : Int) < (met.length : Int) := by omega
     go_wp2
     go_loopw [8, 10] (fun v i wq => ∃ (j : Nat) (met : List ByteArray), j ≤ T.length ∧ i = .int .i64 j ∧ Hid (MetL ns G nm k met ∧ met[k]? = some z0 ∧ ∀ e ∈ T.take j, fromE rs e = z0 → toE rs e ∈ met) ∧ ProgI.Names10 w4 v met wq) (fun _ i _ => T.length - (intOf i).toNat)
     case atStart => exact ⟨0, met, Nat.zero_le _, rfl, Lib.hid ⟨HME.out, HZ.out, (fun e he => by simp at he)⟩, HN.out⟩
     case round =>
      obtain ⟨j, met, hj, rfl, hmet, hN⟩ := hrel
      have HME := Lib.hid hmet.out
      have HN2 := Lib.hid hN
      have hml2 := HME.out.1.len
      have hkm := (List.getElem?_eq_some_iff.1 HME.out.2.1).1
      obtain ⟨M2, cm2, rfl, hMr, hMb⟩ := own_str_at hN.1 rfl
      have HMB2 := Lib.hid hMb
      have HMR2 := Lib.hid hMr
      clear hmet hN HN HZ hMb
      by_cases hltj : j < T.length
      ·obtain ⟨bm, om, rfl, hbm, hcm⟩ := hMr.at_ hkm
       obtain ⟨be, oe, rfl, hbe4, g04, g14⟩ := (OwnS.arg OY4.out).edge_at hltj
       have hbe : be < wr.heap.size := Nat.lt_of_lt_of_le hbe4 HN2.out.2.size
       have g0 := (HN2.out.2.cell (p := ⟨be, oe + j * 2, none⟩) hbe4).trans g04
       have g1 := (HN2.out.2.cell (p := ⟨be, oe + j * 2 + 1, none⟩) hbe4).trans g14
       obtain ⟨e1, e2, he1, he2, he⟩ := HM.out T[j] (List.getElem_mem hltj)
       have hi2 : (0 : Int) ≤ (j : Int) := by omega
       have hi3 : (j : Int) < (T.length : Int) := by omega
       have hkm1 : (k : Int) < (met.length : Int) := by omega
       rw [he] at g0 g1 g04 g14
       have KS4 := Lib.hid (fun (W : World) (h : Below w4.heap.size w4 W) => (⟨(V4.out.below h).cell 0 _ rfl, (V4.out.below h).cell 1 _ rfl, (h.cell (p := ⟨be, oe + j * 2, none⟩) hbe4).trans g04, (h.cell (p := ⟨be, oe + j * 2 + 1, none⟩) hbe4).trans g14⟩ : W.cell? ⟨w.heap.size, 0, none⟩ = some (Value.slice A fs.length c) ∧ W.cell? ⟨w.heap.size, 1, none⟩ = some (Value.slice B rs.length d) ∧ W.cell? ⟨be, oe + j * 2, none⟩ = some (Value.int .i64 (e1 : Int)) ∧ W.cell? ⟨be, oe + j * 2 + 1, none⟩ = some (Value.int .i64 (e2 : Int))))
       clear g04 g14 hbe4
       have bw : Below w.heap.size w wr := B4.out.trans (HN2.out.2.mono B4.out.size)
       have VW := V4.out.below HN2.out.2
       have KS := Lib.hid (fun (W : World) (h : Below wr.heap.size wr W) => (⟨(VW.below h).cell 0 _ rfl, (VW.below h).cell 1 _ rfl, (h.cell (p := ⟨be, oe + j * 2, none⟩) hbe).trans g0, (h.cell (p := ⟨be, oe + j * 2 + 1, none⟩) hbe).trans g1, (h.cell (p := ⟨bm, om + k, none⟩) hbm).trans hcm⟩ : W.cell? ⟨w.heap.size, 0, none⟩ = some (Value.slice A fs.length c) ∧ W.cell? ⟨w.heap.size, 1, none⟩ = some (Value.slice B rs.length d) ∧ W.cell? ⟨be, oe + j * 2, none⟩ = some (Value.int .i64 (e1 : Int)) ∧ W.cell? ⟨be, oe + j * 2 + 1, none⟩ = some (Value.int .i64 (e2 : Int)) ∧ W.cell? ⟨bm, om + k, none⟩ = some (Value.string met[k])))
       have hz0 : met[k] = z0 := Option.some.inj ((List.getElem?_eq_getElem hkm).symm.trans HME.out.2.1)
       rw [hz0] at KS
       have C1 := Lib.hid (fun (W : World) (h : Below wr.heap.size wr W) => C1.out W (below_step bw h) e1 e2 he1)
       have C2 := Lib.hid (fun (W : World) (h : Below wr.heap.size wr W) => C2.out W (below_step bw h) e1 e2 he1 he2)
       have I1 := Lib.hid (fun (W : World) (h : Below wr.heap.size wr W) => NameS.specIndex (some ⟨bm, om, none⟩) cm2 met (toE rs ((e1 : Int), (e2 : Int))) W (hMr.below h) (by omega))
       have D0 := Lib.hid (Below.refl wr.heap.size wr).drew
       have D0r := Lib.hid (Below.refl wr.heap.size wr)
       have HEM := Lib.hid (show ((e1 : Int), (e2 : Int)) ∈ T from he ▸ List.getElem_mem hltj)
       have HTK := Lib.hid (show T.take (j + 1) = T.take j ++ [((e1 : Int), (e2 : Int))] by rw [take_snoc hltj, he])
       have HVE1 := Lib.hid (HVE.out _ HEM.out)
       have HIX := Lib.hid (Lib.idxOfS_nonneg_iff met (toE rs ((e1 : Int), (e2 : Int))))
       have HGM := Lib.hid (show (fromE rs ((e1 : Int), (e2 : Int)), toE rs ((e1 : Int), (e2 : Int))) ∈ G by rw [HG.out]; exact List.mem_map.2 ⟨_, HEM.out, rfl⟩)
       have HFE := Lib.hid (show fromE rs ((e1 : Int), (e2 : Int)) = fromE rs ((e1 : Int), (e2 : Int)) from rfl)
       have hp0 : wr.cell? ⟨w.heap.size, 0, none⟩ = some (.slice A fs.length c) := VW.cell 0 _ rfl
       have hp1 : wr.cell? ⟨w.heap.size, 1, none⟩ = some (.slice B rs.length d) := VW.cell 1 _ rfl
       rw [hz0] at hcm
       obtain ⟨f1, hf1⟩ : ∃ f1, f1 = fromE rs ((e1 : Int), (e2 : Int)) := ⟨_, rfl⟩
       obtain ⟨f2, hf2⟩ : ∃ f2, f2 = toE rs ((e1 : Int), (e2 : Int)) := ⟨_, rfl⟩
       rw [← hf1, ← hf2] at HVE1 HGM
       rw [← hf1] at C1
       rw [← hf2] at C2 I1 HIX
       have HF1 := Lib.hid hf1
       have HF2 := Lib.hid hf2
       generalize Lib.idxOfS met f2 = y2 at *
       obtain ⟨q, hq⟩ : ∃ q : Bool, q = ((f1.toList == z0.toList) && decide (y2 < 0)) := ⟨_, rfl⟩
       have HQ := Lib.hid hq
       clear hq hf1 hf2 he hz0 HFE bw VW HM hMr
       go_upto_region 13 with fail
       go_cut [62] (fun s wx => s = .bool q ∧ Below wr.heap.size wr wx)
       case first =>
        by_cases h1 : (f1.toList == z0.toList) = true
        ·have HFq := Lib.hid (show q = decide (y2 < 0) by rw [HQ.out, h1]; rfl)
         refine wp_region_held_drew (S := (fun W => W.cell? ⟨w.heap.size, 0, none⟩ = some (Value.slice A fs.length c) ∧ W.cell? ⟨w.heap.size, 1, none⟩ = some (Value.slice B rs.length d) ∧ W.cell? ⟨be, oe + j * 2, none⟩ = some (Value.int .i64 (e1 : Int)) ∧ W.cell? ⟨be, oe + j * 2 + 1, none⟩ = some (Value.int .i64 (e2 : Int)) ∧ W.cell? ⟨bm, om + k, none⟩ = some (Value.string z0))) (by kernel_rfl) ?_ (fun hHeld => ?_)
         ·(try dsimp only); first | exact KS.out _ D0.out | exact KS.out _ D0r.out
         refine tkW 0 oReachS2O0 ?v7_0 ?hy7_0 ?r7_0
         case hy7_0 => (intro w hSw; (try dsimp only at hSw); (try unfold oReachS2O0); go_simp; try (with_reducible rfl))
         (try simp only [oReachS2O0, Act.put, zA, zB, zC])
         refine tkW 1 oReachS2O1 ?v7_1 ?hy7_1 ?r7_1
         case hy7_1 => (intro w hSw; (try dsimp only at hSw); (try unfold oReachS2O1); go_simp; try (with_reducible rfl))
         (try simp only [oReachS2O1, Act.put, zA, zB, zC])
         refine tkW 2 oReachS2O2 ?v7_2 ?hy7_2 ?r7_2
         case hy7_2 => (intro w hSw; (try dsimp only at hSw); (try unfold oReachS2O2); go_simp; try (with_reducible rfl))
         (try simp only [oReachS2O2, Act.put, zA, zB, zC])
         refine tkW 3 oReachS2O3 ?v7_3 ?hy7_3 ?r7_3
         case hy7_3 => (intro w hSw; (try dsimp only at hSw); (try unfold oReachS2O3); go_simp; try (with_reducible rfl))
         (try simp only [oReachS2O3, Act.put, zA, zB, zC])
         refine tkW 4 oReachS2O4 ?v7_4 ?hy7_4 ?r7_4
         case hy7_4 => (intro w hSw; (try dsimp only at hSw); (try unfold oReachS2O4); go_simp; try (with_reducible rfl))
         (try simp only [oReachS2O4, Act.put, zA, zB, zC])
         refine tkW 6 oReachS2O5 ?v7_6 ?hy7_6 ?r7_6
         case hy7_6 => (intro w hSw; (try dsimp only at hSw); (try unfold oReachS2O5); go_simp; try (with_reducible rfl))
         (try simp only [oReachS2O5, Act.put, zA, zB, zC])
         refine tkW 7 oReachS2O6 ?v7_7 ?hy7_7 ?r7_7
         case hy7_7 => (intro w hSw; (try dsimp only at hSw); (try unfold oReachS2O6); go_simp; try (with_reducible rfl))
         (try simp only [oReachS2O6, Act.put, zA, zB, zC])
         refine tkW 8 oReachS2O7 ?v7_8 ?hy7_8 ?r7_8
         case hy7_8 => (intro w hSw; (try dsimp only at hSw); (try unfold oReachS2O7); go_simp; try (with_reducible rfl))
         (try simp only [oReachS2O7, Act.put, zA, zB, zC])
         refine tkW 9 oReachS2O8 ?v7_9 ?hy7_9 ?r7_9
         case hy7_9 => (intro w hSw; (try dsimp only at hSw); (try unfold oReachS2O8); go_simp; try (with_reducible rfl))
         (try simp only [oReachS2O8, Act.put, zA, zB, zC])
         refine wpAnyH_ready (rs := [5]) (by kernel_rfl) (by simp) ?_
         refine AllReadyH.cons (o := oReachS2O9) rfl (fun K hK => ?_) AllReadyH.nil
         ((try unfold oReachS2O9); go_simp)
         go_at_call 64; (with_reducible refine (Calls.mono (C1.out _ D0.out)) ?_); rintro e w9 ⟨rfl, b1⟩; (have D1 := Lib.hid (below_step D0.out b1)); clear b1
         refine hK.out _ _ ?_ (fun hHeld2 => ?_)
         ·(try dsimp only); exact KS.out _ D1.out
         clear hK K
         (try simp only [oReachS2O9, Act.put, zA, zB, zC])
         refine tkW 10 oReachS2O10 ?v7_10 ?hy7_10 ?r7_10
         case hy7_10 => (intro w hSw; (try dsimp only at hSw); (try unfold oReachS2O10); go_simp; try (with_reducible rfl))
         (try simp only [oReachS2O10, Act.put, zA, zB, zC])
         refine tkW 11 oReachS2O11 ?v7_11 ?hy7_11 ?r7_11
         case hy7_11 => (intro w hSw; (try dsimp only at hSw); (try unfold oReachS2O11); go_simp; try (with_reducible rfl))
         (try simp only [oReachS2O11, Act.put, zA, zB, zC])
         refine tkW 12 oReachS2O12 ?v7_12 ?hy7_12 ?r7_12
         case hy7_12 => (intro w hSw; (try dsimp only at hSw); (try unfold oReachS2O12); go_simp; try (with_reducible rfl))
         (try simp only [oReachS2O12, Act.put, zA, zB, zC])
         refine tkW 13 oReachS2O13 ?v7_13 ?hy7_13 ?r7_13
         case hy7_13 => (intro w hSw; (try dsimp only at hSw); (try unfold oReachS2O13); go_simp; try (with_reducible rfl))
         (try simp only [oReachS2O13, Act.put, zA, zB, zC])
         refine tkW 14 oReachS2O14 ?v7_14 ?hy7_14 ?r7_14
         case hy7_14 => (intro w hSw; (try dsimp only at hSw); (try unfold oReachS2O14); go_simp; try (with_reducible rfl))
         (try simp only [oReachS2O14, Act.put, zA, zB, zC])
         refine tkW 15 oReachS2O15 ?v7_15 ?hy7_15 ?r7_15
         case hy7_15 => (intro w hSw; (try dsimp only at hSw); (try unfold oReachS2O15); go_simp; try (with_reducible rfl))
         (try simp only [oReachS2O15, Act.put, zA, zB, zC])
         refine tkW 16 oReachS2O16 ?v7_16 ?hy7_16 ?r7_16
         case hy7_16 => (intro w hSw; (try dsimp only at hSw); (try unfold oReachS2O16); go_simp; try (with_reducible rfl))
         (try simp only [oReachS2O16, Act.put, zA, zB, zC])
         refine tkW 17 oReachS2O17 ?v7_17 ?hy7_17 ?r7_17
         case hy7_17 => (intro w hSw; (try dsimp only at hSw); (try unfold oReachS2O17); go_simp; try (with_reducible rfl))
         (try simp only [oReachS2O17, Act.put, zA, zB, zC])
         refine wpAnyH_ready (rs := [18]) (by kernel_rfl) (by simp) ?_
         refine AllReadyH.cons (o := oReachS2O18) rfl (fun K hK => ?_) AllReadyH.nil
         ((try unfold oReachS2O18); go_simp)
         go_at_call 65; (with_reducible refine (Calls.mono (C2.out _ D1.out)) ?_); rintro e w8 ⟨rfl, b2⟩; (have D2 := Lib.hid (below_step D1.out b2)); clear b2
         refine hK.out _ _ ?_ (fun hHeld2 => ?_)
         ·(try dsimp only); exact KS.out _ D2.out
         clear hK K
         (try simp only [oReachS2O18, Act.put, zA, zB, zC])
         refine wpAnyH_ready (rs := [19]) (by kernel_rfl) (by simp) ?_
         refine AllReadyH.cons (o := oReachS2O19) rfl (fun K hK => ?_) AllReadyH.nil
         ((try unfold oReachS2O19); go_simp)
         go_at_call 17; (with_reducible refine (Calls.mono (I1.out _ D2.out)) ?_); rintro e w7 ⟨rfl, rfl⟩
         refine hK.out _ _ ?_ (fun hHeld2 => ?_)
         ·(try dsimp only); exact KS.out _ D2.out
         clear hK K
         (try simp only [oReachS2O19, Act.put, zA, zB, zC])
         refine tkW 20 oReachS2O20 ?v7_20 ?hy7_20 ?r7_20
         case hy7_20 => (intro w hSw; (try dsimp only at hSw); (try unfold oReachS2O20); go_simp; try (with_reducible rfl))
         (try simp only [oReachS2O20, Act.put, zA, zB, zC])
         refine tkW 21 oReachS2O21 ?v7_21 ?hy7_21 ?r7_21
         case hy7_21 => (intro w hSw; (try dsimp only at hSw); (try unfold oReachS2O21); go_simp; try (with_reducible rfl))
         (try simp only [oReachS2O21, Act.put, zA, zB, zC])
         refine wpAnyH_done (by kernel_rfl) ?_ _
         all_goals
          go_wp2_with fail
          go_meet
          exact ⟨by rw [HFq.out], by first | exact D2.out | exact D2.out.drew⟩
        ·have h1 : (f1.toList == z0.toList) = false := by simpa using h1
         have HFq := Lib.hid (show q = false by rw [HQ.out, h1]; rfl)
         refine wp_region_held_drew (S := (fun W => W.cell? ⟨w.heap.size, 0, none⟩ = some (Value.slice A fs.length c) ∧ W.cell? ⟨w.heap.size, 1, none⟩ = some (Value.slice B rs.length d) ∧ W.cell? ⟨be, oe + j * 2, none⟩ = some (Value.int .i64 (e1 : Int)) ∧ W.cell? ⟨be, oe + j * 2 + 1, none⟩ = some (Value.int .i64 (e2 : Int)) ∧ W.cell? ⟨bm, om + k, none⟩ = some (Value.string z0))) (by kernel_rfl) ?_ (fun hHeld => ?_)
         ·(try dsimp only); first | exact KS.out _ D0.out | exact KS.out _ D0r.out
         refine tkW 0 oReachS2O0 ?v8_0 ?hy8_0 ?r8_0
         case hy8_0 => (intro w hSw; (try dsimp only at hSw); (try unfold oReachS2O0); go_simp; try (with_reducible rfl))
         (try simp only [oReachS2O0, Act.put, zA, zB, zC])
         refine tkW 1 oReachS2O1 ?v8_1 ?hy8_1 ?r8_1
         case hy8_1 => (intro w hSw; (try dsimp only at hSw); (try unfold oReachS2O1); go_simp; try (with_reducible rfl))
         (try simp only [oReachS2O1, Act.put, zA, zB, zC])
         refine tkW 2 oReachS2O2 ?v8_2 ?hy8_2 ?r8_2
         case hy8_2 => (intro w hSw; (try dsimp only at hSw); (try unfold oReachS2O2); go_simp; try (with_reducible rfl))
         (try simp only [oReachS2O2, Act.put, zA, zB, zC])
         refine tkW 3 oReachS2O3 ?v8_3 ?hy8_3 ?r8_3
         case hy8_3 => (intro w hSw; (try dsimp only at hSw); (try unfold oReachS2O3); go_simp; try (with_reducible rfl))
         (try simp only [oReachS2O3, Act.put, zA, zB, zC])
         refine tkW 4 oReachS2O4 ?v8_4 ?hy8_4 ?r8_4
         case hy8_4 => (intro w hSw; (try dsimp only at hSw); (try unfold oReachS2O4); go_simp; try (with_reducible rfl))
         (try simp only [oReachS2O4, Act.put, zA, zB, zC])
         refine tkW 6 oReachS2O5 ?v8_6 ?hy8_6 ?r8_6
         case hy8_6 => (intro w hSw; (try dsimp only at hSw); (try unfold oReachS2O5); go_simp; try (with_reducible rfl))
         (try simp only [oReachS2O5, Act.put, zA, zB, zC])
         refine tkW 7 oReachS2O6 ?v8_7 ?hy8_7 ?r8_7
         case hy8_7 => (intro w hSw; (try dsimp only at hSw); (try unfold oReachS2O6); go_simp; try (with_reducible rfl))
         (try simp only [oReachS2O6, Act.put, zA, zB, zC])
         refine tkW 8 oReachS2O7 ?v8_8 ?hy8_8 ?r8_8
         case hy8_8 => (intro w hSw; (try dsimp only at hSw); (try unfold oReachS2O7); go_simp; try (with_reducible rfl))
         (try simp only [oReachS2O7, Act.put, zA, zB, zC])
         refine tkW 9 oReachS2O8 ?v8_9 ?hy8_9 ?r8_9
         case hy8_9 => (intro w hSw; (try dsimp only at hSw); (try unfold oReachS2O8); go_simp; try (with_reducible rfl))
         (try simp only [oReachS2O8, Act.put, zA, zB, zC])
         refine wpAnyH_ready (rs := [5]) (by kernel_rfl) (by simp) ?_
         refine AllReadyH.cons (o := oReachS2O9) rfl (fun K hK => ?_) AllReadyH.nil
         ((try unfold oReachS2O9); go_simp)
         go_at_call 64; (with_reducible refine (Calls.mono (C1.out _ D0.out)) ?_); rintro e w9 ⟨rfl, b1⟩; (have D1 := Lib.hid (below_step D0.out b1)); clear b1
         refine hK.out _ _ ?_ (fun hHeld2 => ?_)
         ·(try dsimp only); exact KS.out _ D1.out
         clear hK K
         (try simp only [oReachS2O9, Act.put, zA, zB, zC])
         refine tkW 10 oReachS2O10 ?v8_10 ?hy8_10 ?r8_10
         case hy8_10 => (intro w hSw; (try dsimp only at hSw); (try unfold oReachS2O10); go_simp; try (with_reducible rfl))
         (try simp only [oReachS2O10, Act.put, zA, zB, zC])
         refine tkW 11 oReachS2O11 ?v8_11 ?hy8_11 ?r8_11
         case hy8_11 => (intro w hSw; (try dsimp only at hSw); (try unfold oReachS2O11); go_simp; try (with_reducible rfl))
         (try simp only [oReachS2O11, Act.put, zA, zB, zC])
         refine tkU 12 oReachS2O12 ?_
         (try simp only [oReachS2O12, Act.put, zA, zB, zC])
         refine tkU 13 oReachS2O13 ?_
         (try simp only [oReachS2O13, Act.put, zA, zB, zC])
         refine tkU 14 oReachS2O14 ?_
         (try simp only [oReachS2O14, Act.put, zA, zB, zC])
         refine tkU 15 oReachS2O15 ?_
         (try simp only [oReachS2O15, Act.put, zA, zB, zC])
         refine tkU 16 oReachS2O16 ?_
         (try simp only [oReachS2O16, Act.put, zA, zB, zC])
         refine tkU 17 oReachS2O17 ?_
         (try simp only [oReachS2O17, Act.put, zA, zB, zC])
         refine tkU 18 oReachS2O18 ?_
         (try simp only [oReachS2O18, Act.put, zA, zB, zC])
         refine tkU 19 oReachS2O19 ?_
         (try simp only [oReachS2O19, Act.put, zA, zB, zC])
         refine tkU 20 oReachS2O20 ?_
         (try simp only [oReachS2O20, Act.put, zA, zB, zC])
         refine tkW 21 oReachS2O21 ?v8_21 ?hy8_21 ?r8_21
         case hy8_21 => (intro w hSw; (try dsimp only at hSw); (try unfold oReachS2O21); go_simp; try (with_reducible rfl))
         (try simp only [oReachS2O21, Act.put, zA, zB, zC])
         refine wpAnyH_done (by kernel_rfl) ?_ _
         all_goals
          go_wp2_with fail
          go_meet
          exact ⟨by rw [HFq.out], by first | exact D1.out | exact D1.out.drew⟩
       case rest =>
        obtain ⟨rfl, hbx⟩ := hcut
        have HBX := Lib.hid hbx
        obtain ⟨k0, k1, k2, k3, _⟩ := KS.out wc hbx
        have hbw : be < wc.heap.size := Nat.lt_of_lt_of_le hbe hbx.size
        have hpl : w.heap.size < wc.heap.size := Nat.lt_of_lt_of_le (Nat.lt_of_lt_of_le V4.out.lt HN2.out.2.size) hbx.size
        have hwsx := hbx.size
        have hw4s := HN2.out.2.size
        clear hbx g0 g1 hcm hp0 hp1 C1 I1 D0 D0r
        cases q with
        | true =>
         have hq2 := HQ.out.symm
         rw [Bool.and_eq_true, decide_eq_true_eq] at hq2
         have hfz : f1 = z0 := (Lib.bytes_beq_iff _ _).1 hq2.1
         have hnm : f2 ∉ met := fun h => by have := HIX.out.2 h; omega
         have HMA := Lib.hid (HME.out.1.add (b := z0) (c := f2) (List.mem_of_getElem? HME.out.2.1) (hfz ▸ HGM.out) HVE1.out.2 hnm (by omega))
         have HKZ := Lib.hid (show (met ++ [f2])[k]? = some z0 by rw [List.getElem?_append_left hkm]; exact HME.out.2.1)
         have HTA := Lib.hid (show ∀ e ∈ T.take (j + 1), fromE rs e = z0 → toE rs e ∈ met ++ [f2] from fun e he hf => by
          rw [HTK.out] at he
          rcases List.mem_append.1 he with he | he
          ·exact List.mem_append_left _ (HME.out.2.2 e he hf)
          ·rw [List.mem_singleton.1 he, ← HF2.out]; exact List.mem_append_right _ (by simp))
         clear hq2 hfz hnm
         have C9 := Lib.hid (C2.out wc.drew (HBX.out.trans ((Below.refl _ _).drew.mono HBX.out.size)))
         have ON := Lib.hid (own_below HN2.out.1 HBX.out)
         have KS2 := Lib.hid (fun (W : World) (h : Below wc.heap.size wc W) => KS.out W (HBX.out.trans (h.mono HBX.out.size)))
         go_wp2_with fail
         go_region_held3 (fun W => W.cell? ⟨w.heap.size, 0, none⟩ = some (Value.slice A fs.length c) ∧ W.cell? ⟨w.heap.size, 1, none⟩ = some (Value.slice B rs.length d) ∧ W.cell? ⟨be, oe + j * 2, none⟩ = some (Value.int .i64 (e1 : Int)) ∧ W.cell? ⟨be, oe + j * 2 + 1, none⟩ = some (Value.int .i64 (e2 : Int)))
          (first | exact KS4.out _ BB5 | exact ⟨(KS2.out _ BB8).1, (KS2.out _ BB8).2.1, (KS2.out _ BB8).2.2.1, (KS2.out _ BB8).2.2.2.1⟩ | exact ⟨(KS2.out _ (BB8.alloc hs8 _)).1, (KS2.out _ (BB8.alloc hs8 _)).2.1, (KS2.out _ (BB8.alloc hs8 _)).2.2.1, (KS2.out _ (BB8.alloc hs8 _)).2.2.2.1⟩ | go_keep)
          (first
          | (go_at_call 65; (with_reducible refine (Calls.mono C9.out) ?_); rintro e w8 ⟨rfl, b8⟩; (have BB8 : Below wc.heap.size wc w8 := (Below.refl wc.heap.size wc).drew.trans b8); (have hs8 : wc.heap.size ≤ w8.heap.size := BB8.size); (have ON8 := Lib.hid ((own_below ON.out BB8).alloc (Obj.cells #[Value.string f2] 9))); (have RN8 := Lib.hid (show Row 0 (w8.alloc (Obj.cells #[Value.string f2] 9)).heap.size (w8.alloc (Obj.cells #[Value.string f2] 9)) (some ⟨w8.heap.size, 0, none⟩) [.string f2] from row_new (heap_alloc_new w8 (Obj.cells #[Value.string f2] 9)))))
          | (refine step_append_rowW (w := w8.alloc (Obj.cells #[Value.string f2] 9)) rfl _ _ _ rfl 9 i0 (.string ByteArray.empty) 1 16 w4.heap.size Tryz.underlying31 hi hz0 hz1 hz2 rfl (by decide) _ met.length (met.map Value.string) rfl ON8.out _ 1 _ [.string f2] rfl rfl RN8.out (by simp [Value.oneCell']) (by unfold maxLen; omega) (by omega) (by first | omega | (simp; omega)) ?_; intro v5 w5 hown5 hgrow5 hwh5; (have BB5 : Below w4.heap.size w4 w5 := ((HN2.out.2.trans (HBX.out.mono HN2.out.2.size)).trans ((BB8.alloc hs8 (Obj.cells #[Value.string f2] 9)).mono (by omega))).grown hgrow5 (by simp; omega) (fun g e => (HN2.out.1.lt g e).1))))
         all_goals
          have NN := Lib.hid (show ProgI.Names10 w4 v5 (met ++ [f2]) w5 from ⟨by rw [List.map_append, List.length_append]; exact hown5, BB5⟩)
          clear hown5 hgrow5 hwh5 BB5 b8 BB8
          go_wp2
          go_roundw
          case rel => exact ⟨j + 1, met ++ [f2], by omega, by go_num, Lib.hid ⟨HMA.out, HKZ.out, HTA.out⟩, NN.out⟩
          case measure => simp [intOf]; omega
        | false =>
         have HTA := Lib.hid (show ∀ e ∈ T.take (j + 1), fromE rs e = z0 → toE rs e ∈ met from fun e he hf => by
          rw [HTK.out] at he
          rcases List.mem_append.1 he with he | he
          ·exact HME.out.2.2 e he hf
          ·rw [List.mem_singleton.1 he] at hf ⊢
           rw [← HF1.out] at hf
           rw [← HF2.out]
           have hq2 := HQ.out.symm
           rw [hf, (Lib.bytes_beq_iff _ _).2 rfl, Bool.true_and] at hq2
           have := of_decide_eq_false hq2
           exact HIX.out.1 (by omega))
         have NN := Lib.hid (show ProgI.Names10 w4 _ met wc from ⟨own_below HN2.out.1 HBX.out, HN2.out.2.trans (HBX.out.mono HN2.out.2.size)⟩)
         go_wp2
         go_roundw
         case rel => exact ⟨j + 1, met, by omega, by go_num, Lib.hid ⟨HME.out.1, HME.out.2.1, HTA.out⟩, NN.out⟩
         case measure => simp [intOf]; omega
      ·obtain rfl : j = T.length := by omega
       have HN9 := Lib.hid (HME.out.1.next HME.out.2.1 (fun x hx => by
        rw [HG.out] at hx
        obtain ⟨e, he, h9⟩ := List.mem_map.1 hx
        injection h9 with h8 h9
        rw [← h9]
        exact HME.out.2.2 e (by rw [List.take_length]; exact he) h8))
       clear hMr
       go_wp2
       go_roundw
       case rel => exact ⟨k + 1, met, by omega, by go_num, HN9, HN2.out⟩
       case measure => simp [intOf]; omega
    ·obtain rfl : k = met.length := by omega
     have HFI := Lib.hid (HME.out.fin (p := fun x => decide (0 ≤ Lib.idxOfS met x)) (fun x => by rw [decide_eq_true_iff]; exact Lib.idxOfS_nonneg_iff met x))
     have GM := ProgI.gave_own HN.out.1 HN.out.2
     obtain ⟨M9, c9, hv9, oM, _⟩ := GM
     injection hv9 with hv9
     injection hv9 with hM9 _ hc9
     subst hM9
     subst hc9
     have hw9 := HN.out.2.size
     have hz4 := hsz4.out
     have OR0 := Lib.hid (show OutR w w2 wr X M cx cm ns met (w.heap.size + 1) w1.heap.size w4.heap.size (.slice (some ⟨w2.heap.size, 0, none⟩) 0 0) [] wr from ⟨own_below O4.out HN.out.2, B4.out.trans (HN.out.2.mono B4.out.size), by simpa using OwnS.below OX4.out HN.out.2, oM, fun g hg => Or.inl (by injection hg with hg; exact hg.symm)⟩)
     clear oM
     go_wp2
     go_loopw [7, 11] (fun v i wq => ∃ (k : Nat) (done : List ByteArray), k ≤ ns.length ∧ i = .int .i64 k ∧ Hid (done = (ns.take k).filter (fun x => decide (0 ≤ Lib.idxOfS met x))) ∧ OutR w w2 wr X M cx cm ns met (w.heap.size + 1) w1.heap.size w4.heap.size v done wq) (fun _ i _ => ns.length - (intOf i).toNat)
     case atStart => exact ⟨0, [], Nat.zero_le _, rfl, Lib.hid rfl, OR0.out⟩
     case round =>
      obtain ⟨k, done, hk, rfl, hdone, hN⟩ := hrel
      have HD := Lib.hid hdone.out
      have HO := Lib.hid hN
      have hdl : done.length ≤ 9000000 := by
       rw [HD.out]
       have h2 := List.length_filter_le (fun x => decide (0 ≤ Lib.idxOfS met x)) (ns.take k)
       rw [List.length_take] at h2
       omega
      clear hdone hN OR0
      by_cases hltk : k < ns.length
      ·obtain ⟨h1, h2, h3, h4, h5⟩ := HO.out
       obtain ⟨q1, fp1, h3⟩ := h3.arg
       obtain ⟨q2, fp2, h4⟩ := h4.arg
       obtain ⟨bx, ox, rfl, hbx, hcx⟩ := (strs_open h3).1.at_ hltk
       have IX := Lib.hid (NameS.specIndex M cm met ns[k] _ (strs_open h4).1 (by omega))
       have HST := Lib.hid (show (ns.take (k + 1)).filter (fun x => decide (0 ≤ Lib.idxOfS met x)) = done ++ [ns[k]].filter (fun x => decide (0 ≤ Lib.idxOfS met x)) by rw [take_snoc hltk, List.filter_append, HD.out])
       generalize ns[k] = x at *
       have hi0 : (0 : Int) ≤ (k : Int) := by omega
       have hi1 : (k : Int) < (ns.length : Int) := by omega
       have hws := h2.size
       have hw2 := HO.out.base
       clear h1 h2 h3 h4 h5
       by_cases hx : 0 ≤ Lib.idxOfS met x
       ·have HFx := Lib.hid (show done ++ [x] = (ns.take (k + 1)).filter (fun x => decide (0 ≤ Lib.idxOfS met x)) by rw [HST.out]; simp [hx])
        have RN := Lib.hid (show Row 0 (wr.alloc (Obj.cells #[Value.string x] 9)).heap.size (wr.alloc (Obj.cells #[Value.string x] 9)) (some ⟨wr.heap.size, 0, none⟩) [.string x] from row_new (heap_alloc_new wr (Obj.cells #[Value.string x] 9)))
        have OA := Lib.hid (HO.out.1.alloc (Obj.cells #[Value.string x] 9))
        generalize Lib.idxOfS met x = y9 at *
        go_wp2_with fail
        refine (Calls.mono IX.out) ?_
        rintro e w9 ⟨rfl, rfl⟩
        go_upto_region 17 with (at_builtin; go_loud (refine wpList_append_rowW rfl _ _ _ rfl 9 i0 (.string ByteArray.empty) 1 16 w2.heap.size Tryz.underlying31 hi hz0 hz1 hz2 rfl (by decide) _ done.length (done.map Value.string) rfl OA.out _ 1 _ [.string x] rfl rfl RN.out (by simp [Value.oneCell']) (by unfold maxLen; omega) (by omega) (by simp; omega) ?_); intro v5 w5 hown5 hgrow hwh)
        have NN := Lib.hid (HO.out.grow (e := x) hgrow hown5 hwh hz4 (by omega) (by omega))
        clear hown5 hgrow hwh hcx
        go_wp2
        go_roundw
        case rel => exact ⟨k + 1, done ++ [x], by omega, by go_num, HFx, NN.out⟩
        case measure => simp [intOf]; omega
       ·have e9 : decide (0 ≤ Lib.idxOfS met x) = false := decide_eq_false hx
        have HFx := Lib.hid (show done = (ns.take (k + 1)).filter (fun x => decide (0 ≤ Lib.idxOfS met x)) by rw [HST.out]; simp [e9])
        clear HST
        generalize Lib.idxOfS met x = y9 at *
        go_wp2_with fail
        refine (Calls.mono IX.out) ?_
        rintro e w9 ⟨rfl, rfl⟩
        go_wp2
        go_roundw
        case rel => exact ⟨k + 1, done, by omega, by go_num, HFx, HO.out⟩
        case measure => simp [intOf]; omega
      ·obtain rfl : k = ns.length := by omega
       have FIN := Lib.hid (ProgI.gave_own (own_mono HO.out.1 (show w.heap.size ≤ w2.heap.size by omega)) HO.out.2.1)
       have HFF := Lib.hid (show R = done by rw [HF.out, HD.out, List.take_length]; exact HFI.out.symm)
       go_wp2
       go_ret
       rw [HFF.out]
       exact FIN.out
  ·have e1 : decide (y < 0) = true := decide_eq_true (by omega)
   have HFF := Lib.hid (show R = [] by rw [HF.out]; exact rchL_none (fun h => hy (by rw [← hY]; exact (Lib.idxOfS_nonneg_iff ns nm).2 h)))
   clear hY hy
   go_wp2_with fail
   refine (Calls.mono IN.out) ?_
   rintro e w5 ⟨rfl, rfl⟩
   go_wp2
   go_ret
   rw [HFF.out]
   exact ⟨_, _, rfl, OwnS.nil _ _ _ _ (Nat.le_refl _), B4.out⟩
end GraphS
end Go.Proofs.YtbbllkhmenpnlaaGreat
