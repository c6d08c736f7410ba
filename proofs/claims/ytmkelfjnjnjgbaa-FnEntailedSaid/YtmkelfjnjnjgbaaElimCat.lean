import Derived.Test.YtmkelfjnjnjgbaaElimDel
import Derived.Test.YtmkelfjnjnjgbaaElimRep
import Derived.Test.YtmkelfjnjnjgbaaSysOwn
import Derived.Lib.AppendZerosOnto
/-
  The program's search: lists of expressions put together (slices.Grow at nil, slices.Concat of two).
-/
namespace Go.Proofs.Ytmkelfjnjnjgbaa
open Go.RowKit
namespace RowK
/-- append of nothing that is nil. -/
theorem run_append_nil {P : Program} (w : World) (t ty e : TypeId) (i : TypeInfo) (ht : P.underlying t = some (.slice e)) (hi : P.info? e = some i) (base : Option Addr) (n cap c : Nat) (h : n ≤ cap) :
    (Builtin.append_ #[t, t] ty #[.slice base n cap, .slice none 0 c]).run P w = .ok (.slice base n cap) w := by
  cases base <;> simp [Builtin.append_, run_underlying ht, sizeOf, typeInfo, hi, Builtin.lenOf, h, Builtin.firstCells, storeCells]
/-- What is appended: the cells of a slice, or nothing. -/
def AppSrc (w : World) (v : Value) (m : Nat) (news : List Value) : Prop :=
  (∃ ad c, v = .slice (some ad) m c ∧ ∀ j u, news[j]? = some u → w.cell? (ad.add j) = some u) ∨ (∃ c, v = .slice none 0 c ∧ m = 0 ∧ news = [])
theorem AppSrc.below {w w' : World} {v : Value} {m : Nat} {news : List Value} (h : AppSrc w v m news) (hb : Below w.heap.size w w') : AppSrc w' v m news := by
  rcases h with ⟨ad, c, rfl, h⟩ | h
  · exact Or.inl ⟨ad, c, rfl, fun j u hu => (hb.cell (p := ad.add j) (World.block_lt_of_cell? _ _ (h j u hu))).trans (h j u hu)⟩
  · exact Or.inr h
section
variable {P : Program} {w : World}
theorem wpList_append_src {ops : Array Oper} {rest : List Oper} {o : Oper} {a : Act} {Q : Exit → Act → World → Prop} (hgd : o.guard = none) (s x : Operand) (t : TypeId)
    (ho : o.op = .call { callee := .builtin .append, args := #[s, x], argTypes := #[t, t] })
    (base : Nat) (e : TypeId) (i : TypeInfo) (z : Value) (size bytes : Nat) (ht : P.underlying t = some (.slice e)) (hi : P.info? e = some i) (hz : i.zero = some z)
    (hsize : i.size = size) (hby : i.bytes = bytes) (hzs : z.cells.size = size) (hsz : 0 < size)
    (v : Value) (n : Nat) (xs : List Value) (hs : a.eval s = v) (hown : w.ownsRow base e size v n xs)
    (src : Value) (m : Nat) (news : List Value) (hx : a.eval x = src) (hsrc : AppSrc w src m news) (hl : news.length = m * size) (h1 : ∀ u ∈ news, u.oneCell' = true)
    (h63 : n + m ≤ maxLen) (hbytes : (n + m) * bytes ≤ 140737488355328) (hbase : base ≤ w.heap.size)
    (h : ∀ v' w', w'.ownsRow base e size v' (n + m) (xs ++ news) → w.grownBy w' v.ownBlock → (v'.ownBlock = v.ownBlock ∨ ∀ g, v'.ownBlock = some g → w.heap.size ≤ g) → wpList P ops Q rest (a.put o.dst v') w') : wpList P ops Q (o :: rest) a w := by
  rcases hsrc with ⟨ad, c, rfl, hnews⟩ | ⟨c, rfl, rfl, rfl⟩
  · exact wpList_append_where hgd s x t ho base e i z size bytes ht hi hz hsize hby hzs hsz v n xs hs hown ad m c news hx hl hnews h1 h63 hbytes hbase h
  · refine wpList_plain hgd fun K hK => ?_
    have hr : (Builtin.append_ #[t, t] o.type #[v, .slice none 0 c]).run P w = .ok v w := by
      obtain ⟨A, cap, rfl, _, _, hc, _⟩ := of_own hown
      exact run_append_nil w t o.type e i ht hi A n cap c hc
    unfold Oper.wp execOp
    simp only [ho, resolve, invoke, builtin, Sem.run_bind, Sem.run_pure, Result.andThen_ok, List.map_toArray, List.map_cons, List.map_nil, hs, hx, hr]
    exact hK _ _ (h v w (by simpa using hown) ⟨rfl, rfl, rfl, Nat.le_refl _, fun _ _ _ => rfl⟩ (Or.inl rfl))
end
end RowK
namespace Mem
open RowK
variable {α : Type}
/-- Several more. -/
theorem Listed.app {r : Rep α} {e : TypeId} {base : Nat} {w w5 : World} {v v5 : Value} {es es1 : List (El α)}
    (he : ∀ y ∈ es, r.rep false w y.1 y.2.1 y.2.2) (hd : ∀ b ∈ fps es, v.ownBlock ≠ some b) (he1 : ∀ y ∈ es1, r.rep false w y.1 y.2.1 y.2.2) (hd1 : ∀ b ∈ fps es1, v.ownBlock ≠ some b)
    (h5 : w5.ownsRow base e r.n v5 (es.length + es1.length) (cells es ++ cells es1)) (hg : w.grownBy w5 v.ownBlock) (hw : v5.ownBlock = v.ownBlock ∨ ∀ g, v5.ownBlock = some g → w.heap.size ≤ g) :
    Listed r e base w5 v5 (vals es ++ vals es1) := by
  have hall : ∀ y ∈ es ++ es1, r.rep false w y.1 y.2.1 y.2.2 := fun y hy => by
    rcases List.mem_append.1 hy with h | h
    · exact he y h
    · exact he1 y h
  have hne : ∀ b ∈ fps (es ++ es1), b < w.heap.size ∧ v.ownBlock ≠ some b := fun b hb => by
    obtain ⟨y, h6, h7⟩ := List.mem_flatMap.1 hb
    refine ⟨r.lt (hall y h6) b h7, ?_⟩
    rw [fps_append] at hb
    rcases List.mem_append.1 hb with h | h
    · exact hd b h
    · exact hd1 b h
  refine ⟨es ++ es1, vals_append _ _, ?_, ?_, ?_⟩
  · rw [List.length_append, vals_len, vals_len, cells_append]
    exact h5
  · intro y h
    exact r.same (hall y h) hg.size (fun b hb => hg.block b (r.lt (hall y h) b hb) (fun e' => (hne b (mem_fps h hb)).2 e'.symm))
  · intro b hb e
    rcases hw with hw | hw
    · exact (hne b hb).2 (by rw [← hw]; exact e)
    · have := hw b e
      have := (hne b hb).1
      omega
end Mem
namespace ElimI
open RowK Mem ElimM ArithM LinM LinI

theorem lin_one {q : Bool} {w : World} {fp : List Nat} {cs : List Value} {r : Int × List Int} (h : lin.rep q w fp cs r) : ∀ u ∈ cs, u.oneCell' = true := fun u hu => by
  obtain ⟨A, a, lo, hi, rfl, _⟩ := lin_open h
  simp at hu
  rcases hu with rfl | rfl <;> rfl
theorem lins_one {q : Bool} {w : World} {es : List (El (Int × List Int))} (h : ∀ x ∈ es, lin.rep q w x.1 x.2.1 x.2.2) : ∀ u ∈ cells es, u.oneCell' = true := fun u hu => by
  obtain ⟨x, hx, hu⟩ := List.mem_flatMap.1 hu
  exact lin_one (h x hx) u hu
theorem lins_src {q : Bool} {w : World} {fp : List Nat} {A : Option Addr} {n c : Nat} {xs : List (Int × List Int)} (h : lins.rep q w fp [.slice A n c] xs) :
    ∃ es : List (El (Int × List Int)), vals es = xs ∧ (∀ x ∈ es, lin.rep false w x.1 x.2.1 x.2.2) ∧ AppSrc w (.slice A n c) es.length (cells es) := by
  obtain ⟨A', c', e, _, ⟨rfl, _⟩ | ⟨b, o, es, rfl, rfl, hne, _, hb, he, hr, _⟩⟩ := h
  · injection e with e _
    injection e with e1 e2 e3
    subst e1
    subst e2
    refine ⟨[], rfl, (fun _ h => by cases h), ?_⟩
    cases A with
    | none => exact Or.inr ⟨c, rfl, rfl, rfl⟩
    | some a => exact Or.inl ⟨a, c, rfl, fun j u h => by simp [cells] at h⟩
  · injection e with e _
    injection e with e1 e2 e3
    subst e1
    subst e2
    refine ⟨es, rfl, fun x hx => lin.loose (he x hx), Or.inl ⟨⟨b, o, none⟩, c, by rw [vals_len], fun j u hj => ?_⟩⟩
    obtain ⟨b', o', e', _, hc⟩ := hr (fun h0 => by rw [h0] at hj; simp at hj)
    injection e' with e'
    injection e' with e1 e2
    subst e1
    subst e2
    rw [show (⟨b, o, none⟩ : Addr).add j = ⟨b, o + j, none⟩ by unfold Addr.add; split <;> simp_all]
    exact hc j u hj

set_option maxHeartbeats 2000000 in
set_option maxRecDepth 100000 in
/-- slices.Grow at nil. -/
theorem grow (n : Nat) (hn : 0 < n) (hl : n ≤ 100000) (w : World) :
    Calls Try.prog 94 #[.slice none 0 0, .int .i64 (n : Int)] w fun e w' => ∃ cap, e = .returned (.slice (some ⟨w.heap.size, 0, none⟩) 0 cap) ∧ w'.ownsRow w.heap.size 29 2 (.slice (some ⟨w.heap.size, 0, none⟩) 0 cap) 0 [] ∧ Below w.heap.size w w' := by
  obtain ⟨i0, hi0, hz0, hz1, hz2⟩ := info_parts linInfo
  have hrz : ∀ ty, (Builtin.append_ #[24, 3] ty #[.slice none 0 0, .int .i64 (n : Int)]).run Try.prog w =
      .ok (.slice (some ⟨w.heap.size, 0, none⟩) (0 + n) (grownCap w (0 + n) 0 29)) (w.drew.alloc (.cells (([] : List Value).toArray ++ Builtin.zeroCells (Value.agg #[.int .i64 0, .slice none 0 0]).cells n ++ Builtin.zeroCells (Value.agg #[.int .i64 0, .slice none 0 0]).cells (grownCap w (0 + n) 0 29 - (0 + n))) 29)) := fun ty =>
    Lib.run_append_grow_zeros w 24 3 ty 29 i0 (.agg #[.int .i64 0, .slice none 0 0]) .i64 .i64 Try.underlying24 Try.underlying3 hi0 hz0 none 0 0 [] (run_firstCells_none w.drew i0.size 0 0 0) n hn (by rw [hz1]; decide) (by omega) (by omega) (by rw [hz2]; omega) (growslice_fits (by omega) (by rw [hz2]; omega))
  rw [Nat.zero_add] at hrz
  have hge : n ≤ grownCap w n 0 29 := grownCap_ge w _ _ _
  have hle : grownCap w n 0 29 ≤ maxLen := grownCap_le_maxLen w n 0 29 (by unfold maxLen; omega)
  have hown : (w.drew.alloc (.cells (([] : List Value).toArray ++ Builtin.zeroCells (Value.agg #[.int .i64 0, .slice none 0 0]).cells n ++ Builtin.zeroCells (Value.agg #[.int .i64 0, .slice none 0 0]).cells (grownCap w n 0 29 - n)) 29)).ownsRow w.heap.size 29 2 (.slice (some ⟨w.heap.size, 0, none⟩) 0 (grownCap w n 0 29)) 0 [] := by
    refine ⟨rfl, Or.inr ⟨w.heap.size, _, _, rfl, Nat.le_refl _, heap_alloc_new _ _, Nat.zero_le _, hle, ?_, by simp⟩⟩
    have hz : (Value.agg #[.int .i64 0, .slice none 0 0]).cells = #[.int .i64 0, .slice none 0 0] := rfl
    rw [hz]
    simp [Builtin.zeroCells]
    omega
  have hb : Below w.heap.size w (w.drew.alloc (.cells (([] : List Value).toArray ++ Builtin.zeroCells (Value.agg #[.int .i64 0, .slice none 0 0]).cells n ++ Builtin.zeroCells (Value.agg #[.int .i64 0, .slice none 0 0]).cells (grownCap w n 0 29 - n)) 29)) := (Below.refl _ _).drew.alloc (Nat.le_refl _) _
  have HB := Lib.hid hb
  have HOW := Lib.hid hown
  have h1 : ¬ ((n : Int) < 0) := by omega
  have h2 : decide ((n : Int) < 0) = false := decide_eq_false h1
  have h3 : decide ((0 : Int) < (n : Int)) = true := decide_eq_true (by omega)
  generalize grownCap w n 0 29 = G at *
  have hG63 : G ≤ 9223372036854775807 := by unfold maxLen at hle; omega
  generalize (w.drew.alloc (.cells (([] : List Value).toArray ++ Builtin.zeroCells (Value.agg #[.int .i64 0, .slice none 0 0]).cells n ++ Builtin.zeroCells (Value.agg #[.int .i64 0, .slice none 0 0]).cells (G - n)) 29)) = W at *
  clear hb hown hi0 hz0 hz1 hz2 hle
  go_enter Try.func94, Try.ntmps94
  go_wp2_with (at_builtin; refine Lib.wpList_append_run _ rfl _ _ _ _ rfl _ _ rfl rfl _ _ (hrz _) ?_)
  go_ret
  exact ⟨G, rfl, HOW.out, HB.out⟩
/-- What stands so far. -/
def CatRel (w : World) (xs ys : List (Int × List Int)) (v s : Value) (wr : World) : Prop :=
  ∃ (k : Nat) (zs : List (Int × List Int)), k ≤ 2 ∧ s = .int .i64 k ∧ (k = 0 ∧ zs = [] ∨ k = 1 ∧ zs = xs ∨ k = 2 ∧ zs = xs ++ ys) ∧ Listed lin 29 w.heap.size wr v zs ∧ Below w.heap.size w wr

set_option maxHeartbeats 4000000 in
set_option maxRecDepth 100000 in
theorem concat2 (bP oP cP : Nat) (A B : Option Addr) (c d : Nat) (xs ys : List (Int × List Int)) (q q2 : Bool) (fp fp2 : List Nat) (w : World) (hA : lins.rep q w fp [.slice A xs.length c] xs) (hB : lins.rep q2 w fp2 [.slice B ys.length d] ys) (c0 : w.cell? ⟨bP, oP, none⟩ = some (.slice A xs.length c)) (c1 : w.cell? ⟨bP, oP + 1, none⟩ = some (.slice B ys.length d)) (hpos : 0 < xs.length + ys.length) (hl : xs.length + ys.length ≤ 1000) :
    Calls Try.prog 74 #[.slice (some ⟨bP, oP, none⟩) 2 cP] w fun e w' => ∃ v, e = .returned v ∧ Listed lin 29 w.heap.size w' v (xs ++ ys) ∧ Below w.heap.size w w' := by
  obtain ⟨i0, hi0, hz0, hz1, hz2⟩ := info_parts linInfo
  have HI := Lib.hid hi0
  have HZ0 := Lib.hid hz0
  have HZ1 := Lib.hid hz1
  have HZ2 := Lib.hid hz2
  have hu := Lib.hid Try.underlying24
  obtain ⟨e0, hv0, he0, hs0⟩ := lins_src hA
  obtain ⟨e1, hv1, he1, hs1⟩ := lins_src hB
  have HV0 := Lib.hid (show [] ++ vals e0 = xs from by rw [hv0]; rfl)
  have HV1 := Lib.hid (show xs ++ vals e1 = xs ++ ys from by rw [hv1])
  have HS0 := Lib.hid hs0
  have HS1 := Lib.hid hs1
  have HE0 := Lib.hid he0
  have HE1 := Lib.hid he1
  have HF0 := Lib.hid (fun b (hb : b ∈ fps e0) => (show b < w.heap.size from by obtain ⟨y, h1, h2⟩ := List.mem_flatMap.1 hb; exact lin.lt (he0 y h1) b h2))
  have HF1 := Lib.hid (fun b (hb : b ∈ fps e1) => (show b < w.heap.size from by obtain ⟨y, h1, h2⟩ := List.mem_flatMap.1 hb; exact lin.lt (he1 y h1) b h2))
  have HC0 := Lib.hid (cells_len (n := 2) (es := e0) (fun x hx => lin.len (he0 x hx)))
  have HC1 := Lib.hid (cells_len (n := 2) (es := e1) (fun x hx => lin.len (he1 x hx)))
  have HO0 := Lib.hid (lins_one he0)
  have HO1 := Lib.hid (lins_one he1)
  have hl0 : e0.length = xs.length := by rw [← hv0, vals_len]
  have hl1 : e1.length = ys.length := by rw [← hv1, vals_len]
  have C0 := Lib.hid (show w.cell? ⟨bP, oP, none⟩ = some (.slice A xs.length c) from c0)
  have C1 := Lib.hid c1
  obtain ⟨T, hT⟩ : ∃ T, xs.length + ys.length = T := ⟨_, rfl⟩
  have GR := Lib.hid (grow T (by omega) (by omega) w)
  have hw1 : IntKind.i64.wrap ((xs.length : Int) + (ys.length : Int)) = (T : Int) := by rw [IntWalk.i64_in _ (by omega)]; omega
  have hd1 : decide ((xs.length : Int) < 0) = false := decide_eq_false (by omega)
  have hd2 : decide ((T : Int) < 0) = false := decide_eq_false (by omega)
  clear hi0 hz0 hz1 hz2 hA hB hv0 hv1 hs0 hs1 he0 he1
  go_enter Try.func74, Try.ntmps74
  go_wp2
  go_loop [3, 5, 11] (fun s3 _ s11 => ∃ (k tot : Nat), k ≤ 2 ∧ s11 = .int .i64 k ∧ s3 = .int .i64 tot ∧ (k = 0 ∧ tot = 0 ∨ k = 1 ∧ tot = xs.length ∨ k = 2 ∧ tot = T)) (fun _ _ s11 => 2 - (intOf s11).toNat)
  case atStart => exact ⟨0, 0, by omega, rfl, rfl, Or.inl ⟨rfl, rfl⟩⟩
  case round =>
    obtain ⟨k, tot, hk, rfl, rfl, hkk⟩ := hrel
    rcases hkk with ⟨rfl, rfl⟩ | ⟨rfl, rfl⟩ | ⟨rfl, rfl⟩
    · go_wp2
      go_round
      case rel => exact ⟨1, xs.length, by omega, by go_num, by first | rfl | go_num | simp, Or.inr (Or.inl ⟨rfl, rfl⟩)⟩
      case measure => simp [intOf]
    · go_wp2
      go_round
      case rel => exact ⟨2, T, by omega, by go_num, by first | rfl | go_num | simp, Or.inr (Or.inr ⟨rfl, rfl⟩)⟩
      case measure => simp [intOf]
    · go_wp2_with fail
      refine (Calls.mono GR.out) ?_
      rintro e w1 ⟨cap, rfl, own1, b1⟩
      have START := Lib.hid (show CatRel w xs ys (.slice (some ⟨w.heap.size, 0, none⟩) 0 cap) (.int .i64 (0 : Nat)) w1 from ⟨0, [], by omega, rfl, Or.inl ⟨rfl, rfl⟩, ⟨[], rfl, own1, (fun _ h => by cases h), (fun _ h => by cases h)⟩, b1⟩)
      clear own1 b1 c0 c1
      go_wp2
      go_loopw [6, 8, 27] (fun v _ s wr => CatRel w xs ys v s wr) (fun _ _ s _ => 2 - (intOf s).toNat)
      case atStart => exact START.out
      case round =>
       obtain ⟨k, zs, hk, rfl, hkk, hLi, hb⟩ := hrel
       clear START
       rcases hkk with ⟨rfl, rfl⟩ | ⟨rfl, rfl⟩ | ⟨rfl, rfl⟩
       · -- part 0
         obtain ⟨eo, heo, hown, he, hd⟩ := hLi
         have HEO := Lib.hid heo
         have HOW := Lib.hid hown
         have HEL := Lib.hid he
         have HD := Lib.hid hd
         have HBB := Lib.hid hb
         have SRC := Lib.hid (HS0.out.below hb)
         have hc := (hb.cell (p := ⟨bP, oP, none⟩) (World.block_lt_of_cell? _ _ C0.out)).trans C0.out
         have hsb := hb.size
         clear heo hown he hd hb
         go_wp2_with (at_builtin; go_loud (refine wpList_append_src rfl (.tmp 31) (.tmp 32) 24 rfl w.heap.size 29 i0 (.agg #[.int .i64 0, .slice none 0 0]) 2 32 hu.out HI.out HZ0.out HZ1.out HZ2.out rfl (by decide) _ _ _ rfl HOW.out _ e0.length (cells e0) rfl SRC.out HC0.out HO0.out (by unfold maxLen; first | omega | (simp; omega)) (by first | omega | (simp; omega)) (by omega) ?_); intro v4 w4 hown4 hgrow hwh)
         have hd1 : ∀ b ∈ fps e0, _ ≠ some b := fun b hb' e => by
           have h1 := (HOW.out.lt b e).1
           have h2 := HF0.out b hb'
           omega
         have hn := Listed.app HEL.out HD.out (fun y hy => Rep.below (HE0.out y hy) HBB.out) hd1 (by have h := hown4; rw [show [].length = eo.length by rw [← vals_len, HEO.out]] at h; exact h) hgrow hwh
         rw [HEO.out] at hn
         have hb4 := HBB.out.grown hgrow hsb (fun j hj => (HOW.out.lt j hj).1)
         have HN := Lib.hid hn
         have HB4 := Lib.hid hb4
         clear hn hb4 hd1 hown4 hgrow hwh hc
         go_roundw
         case rel => exact ⟨1, _, by omega, by go_num, Or.inr (Or.inl ⟨rfl, rfl⟩), by have h := HN.out; rw [HV0.out] at h; exact h, HB4.out⟩
         case measure => simp [intOf]
       · -- part 1
         obtain ⟨eo, heo, hown, he, hd⟩ := hLi
         have HEO := Lib.hid heo
         have HOW := Lib.hid hown
         have HEL := Lib.hid he
         have HD := Lib.hid hd
         have HBB := Lib.hid hb
         have SRC := Lib.hid (HS1.out.below hb)
         have hc := (hb.cell (p := ⟨bP, oP + 1, none⟩) (World.block_lt_of_cell? _ _ C1.out)).trans C1.out
         have hsb := hb.size
         clear heo hown he hd hb
         go_wp2_with (at_builtin; go_loud (refine wpList_append_src rfl (.tmp 31) (.tmp 32) 24 rfl w.heap.size 29 i0 (.agg #[.int .i64 0, .slice none 0 0]) 2 32 hu.out HI.out HZ0.out HZ1.out HZ2.out rfl (by decide) _ _ _ rfl HOW.out _ e1.length (cells e1) rfl SRC.out HC1.out HO1.out (by unfold maxLen; first | omega | (simp; omega)) (by first | omega | (simp; omega)) (by omega) ?_); intro v4 w4 hown4 hgrow hwh)
         have hd1 : ∀ b ∈ fps e1, _ ≠ some b := fun b hb' e => by
           have h1 := (HOW.out.lt b e).1
           have h2 := HF1.out b hb'
           omega
         have hn := Listed.app HEL.out HD.out (fun y hy => Rep.below (HE1.out y hy) HBB.out) hd1 (by have h := hown4; rw [show zs.length = eo.length by rw [← vals_len, HEO.out]] at h; exact h) hgrow hwh
         rw [HEO.out] at hn
         have hb4 := HBB.out.grown hgrow hsb (fun j hj => (HOW.out.lt j hj).1)
         have HN := Lib.hid hn
         have HB4 := Lib.hid hb4
         clear hn hb4 hd1 hown4 hgrow hwh hc
         go_roundw
         case rel => exact ⟨2, _, by omega, by go_num, Or.inr (Or.inr ⟨rfl, rfl⟩), by have h := HN.out; rw [HV1.out] at h; exact h, HB4.out⟩
         case measure => simp [intOf]
       · have HL := Lib.hid hLi
         have HB := Lib.hid hb
         clear hLi hb
         go_wp2
         go_ret
         exact ⟨_, rfl, HL.out, HB.out⟩
end ElimI
end Go.Proofs.Ytmkelfjnjnjgbaa
