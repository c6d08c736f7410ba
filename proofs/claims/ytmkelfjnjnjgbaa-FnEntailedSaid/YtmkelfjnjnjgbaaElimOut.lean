import Derived.Test.YtmkelfjnjnjgbaaElimDel
import Derived.Test.YtmkelfjnjnjgbaaElimCan
import Derived.Test.YtmkelfjnjnjgbaaElimStart
import Derived.Test.YtmkelfjnjnjgbaaRepOwn
import Derived.WalkMore
import Derived.ScopeJumps
/-
  The program's search: the list without a variable.
-/
namespace Go.Proofs.Ytmkelfjnjnjgbaa
open Go.RowKit
namespace ElimM
theorem pref_len {i k j : Nat} {L : List DR} {x : DR} (hk : k < L.length) (hx : L[k] = x) (hpos : 0 < cf x i) : (zeros i L ++ combs i (L.take k) L ++ pairs i x (L.take j)).length ≤ (elimD L i).length := by
  have h1 : combs i L L = combs i (L.take k) L ++ (pairs i x L ++ combs i (L.drop (k + 1)) L) := by
    have h : combs i (L.take k ++ L.drop k) L = combs i (L.take k) L ++ combs i (L.drop k) L := List.flatMap_append
    rw [List.take_append_drop, List.drop_eq_getElem_cons hk, hx] at h
    rw [h, show combs i (x :: L.drop (k + 1)) L = (if 0 < cf x i then pairs i x L else []) ++ combs i (L.drop (k + 1)) L from List.flatMap_cons, if_pos hpos]
  have h2 : (pairs i x (L.take j)).length ≤ (pairs i x L).length := ((List.take_sublist j L).filterMap _).length_le
  unfold elimD
  rw [h1]
  simp only [List.length_append]
  omega
end ElimM
namespace ElimI
open RowK Mem ElimM ElimS ArithM LinM LinI

/-- The list so far. -/
def OutI (base : Nat) (w : World) (v : Value) (M : List DR) (wr : World) : Prop := Listed dr 70 base wr v M ∧ Below base w wr ∧ M.length ≤ 60
theorem OutI.below {base : Nat} {w wr w' : World} {v : Value} {M : List DR} (h : OutI base w v M wr) (hs : base ≤ wr.heap.size) (hb : Below wr.heap.size wr w') : OutI base w v M w' :=
  ⟨h.1.below hb, h.2.1.trans (hb.mono hs), h.2.2⟩
def OutRel1 (base : Nat) (w : World) (i : Nat) (L : List DR) (v s : Value) (wr : World) : Prop := ∃ k : Nat, k ≤ L.length ∧ s = .int .i64 k ∧ OutI base w v (zeros i L ++ combs i (L.take k) L) wr
def OutRel2 (base : Nat) (w : World) (i k : Nat) (L : List DR) (x : DR) (bu : Nat) (xc : Array Value) (v s : Value) (wr : World) : Prop :=
  ∃ j : Nat, j ≤ L.length ∧ s = .int .i64 j ∧ OutI base w v (zeros i L ++ combs i (L.take k) L ++ pairs i x (L.take j)) wr ∧ Lvar wr bu xc ∧ v.ownBlock ≠ some bu
/-- One more, made anew. -/
theorem listI_snoc {base : Nat} {w wr w5 : World} {v v5 : Value} {M : List DR} {z : Int} {n a m c : Nat} {A B : Option Addr} {r : DR} {f : List Nat} {es : List (El DR)} (hbase : base ≤ wr.heap.size)
    (hes : vals es = M) (he : ∀ y ∈ es, dr.rep false wr y.1 y.2.1 y.2.2) (hd : ∀ b ∈ fps es, v.ownBlock ≠ some b) (hb : Below base w wr)
    (hown : wr.ownsRow base 70 3 v M.length (cells es)) (hx : dr.rep false wr f [.int .i64 z, .slice A n a, .slice B m c] r) (hxd : ∀ b ∈ f, v.ownBlock ≠ some b) (o : Obj)
    (h5 : w5.ownsRow base 70 3 v5 (M.length + 1) (cells es ++ [.int .i64 z, .slice A n a, .slice B m c])) (hg : (wr.alloc o).grownBy w5 v.ownBlock) (hw : v5.ownBlock = v.ownBlock ∨ ∀ g, v5.ownBlock = some g → (wr.alloc o).heap.size ≤ g) : Listed dr 70 base w5 v5 (M ++ [r]) ∧ Below base w w5 := by
  have ta : Below wr.heap.size wr (wr.alloc o) := (Below.refl _ _).alloc (Nat.le_refl _) _
  refine ⟨Listed.snoc (w := wr.alloc o) hes (fun y hy => Rep.below (he y hy) ta) hd (Rep.below hx ta) hxd h5 hg hw, ?_⟩
  exact (hb.alloc hbase o).grown hg (by simp; omega) (fun j hj => (hown.lt j hj).1)

/-- A scope in which the run may jump ahead to a label. -/
theorem wp_scope_ahead {P : Program} {a : Act} {w : World} {Q : Exit → Act → World → Prop} {c rest : Code} (l : Nat) (hf : findLabel c l = some rest) (first : c.wp P (Exit.jump l (fun a w => rest.wp P (Exit.noGoto Q) a w) Q) a w) : (Code.scope c).wp P Q a w :=
  wp_scope_jumps l _ (fun _ _ => 0) hf first fun a w h => Code.wp_mono (fun e a w h => by cases e <;> first | exact h | exact (h : False).elim) h

/-- The new list, and whether it is short enough. -/
def GaveW (w : World) (M : List DR) (e : Ending) (w' : World) : Prop :=
  ∃ A n c, e = .returned (.tuple #[.slice A n c, .bool (decide (M.length ≤ 60))]) ∧ (M.length ≤ 60 → n = M.length ∧ ∃ fp, drs.rep false w' fp [.slice A n c] M) ∧ Below w.heap.size w w'
theorem listed_slice {base : Nat} {w : World} {v : Value} {M : List DR} (h : Listed dr 70 base w v M) : ∃ A c fp, v = .slice A M.length c ∧ drs.rep false w fp [.slice A M.length c] M := Listed.rep h (by decide)

/-- Does the variable occur? -/
theorem predVar (i bi : Nat) (w : World) (g : Nat) (hV : Lvar w bi #[.int .i64 i]) (hg : bi < g) : PredD 77 #[.pointer (some ⟨bi, 0, none⟩)] (fun r => !(cf r i == 0)) (fun r => i < r.1.2.length ∧ r.1.2.length ≤ 1000) g (g + 1) w := fun W r f A B a b hm hok hrep => by
  obtain ⟨A', a', B', b', lo, hi, lo', hi', hcs, _, _, h1, h2⟩ := dr_open hrep
  simp only [List.cons.injEq, Value.slice.injEq, and_true, true_and] at hcs
  obtain ⟨⟨rfl, rfl⟩, ⟨rfl, rfl⟩⟩ := hcs
  have h := hasVar lo hi r.1.1 A B r.1.2 a r.2.length b i bi W h1 hok.1 hok.2 (hV.keep hm (Or.inl hg))
  rw [← cf_get hok.1] at h
  exact h

set_option maxHeartbeats 8000000 in
set_option maxRecDepth 100000 in
theorem without {N : Int} {m : Nat} (q : Bool) (fp : List Nat) (A : Option Addr) (c i : Nat) (L : List DR) (w : World) (hok : ∀ r ∈ L, okD N m r) (hm : m ≤ 1000) (hi : (i : Int) < N) (hL : L.length ≤ 60) (hA : drs.rep q w fp [.slice A L.length c] L) :
    Calls Try.prog 38 #[.slice A L.length c, .int .i64 i] w (GaveW w (elimD L i)) := by
  obtain ⟨i0, hi0, hz0, hz1, hz2⟩ := info_parts drInfoI
  have HI := Lib.hid hi0
  have HZ0 := Lib.hid hz0
  have HZ1 := Lib.hid hz1
  have HZ2 := Lib.hid hz2
  have hu := Lib.hid Try.underlying64
  have eg : ∀ args w, (callFunc 77 args).run Try.prog w = .ok (.enter 77 args) w := enters_of Try.func77 (by kernel_rfl) rfl
  have hmf : ∀ (fn : Fn) (first cap : Array Value) (w : World), (Instr.makeFunc fn first cap).run Try.prog w = .ok (.func fn first cap) w := fun _ _ _ _ => rfl
  have HOK := Lib.hid hok
  have HLEN := Lib.hid (fun r (h : r ∈ L) => (show i < r.1.2.length ∧ r.1.2.length ≤ 8 from by
    have := vldB_iff.1 (hok r h).1
    omega))
  have a1 : Below w.heap.size w (w.alloc (Obj.cells #[Value.int IntKind.i64 i] 3)) := (Below.refl _ _).alloc (Nat.le_refl _) _
  have A1 := Lib.hid (Rep.below hA a1)
  have V1 := Lib.hid (Lvar.new w #[Value.int IntKind.i64 i] 3)
  have hs1 : w.heap.size + 1 = (w.alloc (Obj.cells #[Value.int IntKind.i64 i] 3)).heap.size := by simp
  have HS1 := Lib.hid hs1
  have BA := Lib.hid a1
  clear hi0 hz0 hz1 hz2 hok a1 hA hs1
  go_enter Try.func38, Try.ntmps38
  go_upto_region 1 with fail
  go_step3
  have CL := Lib.hid (cloneD q fp A c L _ A1.out (by omega))
  generalize w.alloc (Obj.cells #[Value.int IntKind.i64 i] 3) = w1 at *
  go_wp2_with fail
  refine (Calls.mono CL.out) ?_
  rintro e w2 ⟨v2, rfl, l2, b2⟩
  have hs2 := b2.size
  have DF := Lib.hid (deleteFunc 77 #[.pointer (some ⟨w.heap.size, 0, none⟩)] eg (fun r => !(cf r i == 0)) (fun r => i < r.1.2.length ∧ r.1.2.length ≤ 1000) w1.heap.size v2 L w2 hs2 (fun g hg => predVar i w.heap.size w2 g (V1.out.below b2) (by have := HS1.out; omega)) (fun r hr => ⟨(HLEN.out r hr).1, by have := (HLEN.out r hr).2; omega⟩) l2 (by omega))
  have B2 := Lib.hid b2
  clear CL l2 b2
  go_wp2_with fail
  refine (Calls.mono DF.out) ?_
  rintro e w3 ⟨v3, rfl, l3, b3⟩
  have hz : (L.filter fun r => !(!(cf r i == 0))) = zeros i L := by unfold zeros; simp
  rw [hz] at l3
  have S1 := Lib.hid (show OutI w1.heap.size w1 v3 (zeros i L ++ combs i (L.take 0) L) w3 from by
    rw [show combs i (L.take 0) L = [] from rfl, List.append_nil]
    exact ⟨l3, B2.out.trans b3, Nat.le_trans (zeros_len i L) hL⟩)
  clear DF l3 b3 hz B2
  go_wp2
  go_step3
  go_wp2
  go_loopw [6, 19] (fun v s wr => OutRel1 w1.heap.size w1 i L v s wr) (fun _ s _ => L.length - (intOf s).toNat)
  case atStart => exact ⟨0, Nat.zero_le _, rfl, S1.out⟩
  case round =>
    obtain ⟨k, hk, rfl, hO⟩ := hrel
    have KO := Lib.hid hO
    have hsr := hO.2.1.size
    clear hO S1
    by_cases hlt : k < L.length
    · obtain ⟨x, hx⟩ : ∃ x : DR, L[k] = x := ⟨_, rfl⟩
      have HX := Lib.hid hx
      have HCT := Lib.hid (show combs i (L.take (k + 1)) L = combs i (L.take k) L ++ (if 0 < cf x i then pairs i x L else []) from by rw [← hx]; exact flatMap_take (fun x => if 0 < cf x i then pairs i x L else []) hlt)
      have hi0' : (0 : Int) ≤ (k : Int) := by omega
      have hi1' : (k : Int) < (L.length : Int) := by omega
      have b1r := KO.out.2.1
      obtain ⟨bk, ok, fk, Bk, dk, Ck, ek, lok, hik, lok', hik', rfl, hblk, c0k, c1k, c2k, hdk, hek, r1k, r2k, hrepk, hfk⟩ := drs_at A1.out hlt
      have c0k := (b1r.cell (p := ⟨bk, ok + k * 3, none⟩) hblk).trans c0k
      have c1k := (b1r.cell (p := ⟨bk, ok + k * 3 + 1, none⟩) hblk).trans c1k
      have c2k := (b1r.cell (p := ⟨bk, ok + k * 3 + 2, none⟩) hblk).trans c2k
      have hokk := HOK.out _ (List.getElem_mem hlt)
      have hlik := HLEN.out _ (List.getElem_mem hlt)
      simp only [hx] at c0k c1k c2k hdk hek r1k r2k hokk hlik
      have ta : Below wr.heap.size wr (wr.alloc (Obj.cells #[Value.int IntKind.i64 x.1.1, Value.slice Bk x.1.2.length dk, Value.slice Ck x.2.length ek] 70)) := (Below.refl _ _).alloc (Nat.le_refl _) _
      obtain ⟨bz, oz, rfl, _, cz⟩ := IntK.at_ (r1k.below (b1r.trans (ta.mono hsr))) hlik.1
      rw [← cf_get hlik.1] at cz
      have v1 := (V1.out.below (b1r.trans (ta.mono hsr))).cell 0 (.int .i64 i) rfl
      have hi2' : (0 : Int) ≤ (i : Int) := by omega
      have hi3' : (i : Int) < (x.1.2.length : Int) := by have := hlik.1; omega
      have h1w := HS1.out
      obtain ⟨p, hp⟩ : ∃ p : Int, cf x i = p := ⟨_, rfl⟩
      rw [hp] at cz
      have TA := Lib.hid ta
      have KX := Lib.hid (Lvar.new wr #[Value.int IntKind.i64 x.1.1, Value.slice (some ⟨bz, oz, none⟩) x.1.2.length dk, Value.slice Ck x.2.length ek] 70)
      have HOKK := Lib.hid hokk
      have R1K := Lib.hid r1k
      have R2K := Lib.hid r2k
      have hsa : (wr.alloc (Obj.cells #[Value.int IntKind.i64 x.1.1, Value.slice (some ⟨bz, oz, none⟩) x.1.2.length dk, Value.slice Ck x.2.length ek] 70)).heap.size = wr.heap.size + 1 := by simp
      have HSA := Lib.hid hsa
      clear b1r hx hrepk hfk hokk r1k r2k ta hdk hek hsa
      by_cases hpp : 0 < p
      · have hpd : decide (p ≤ 0) = false := decide_eq_false (by omega)
        have HPP := Lib.hid (show 0 < cf x i by rw [hp]; exact hpp)
        have START := Lib.hid (show OutRel2 w1.heap.size w1 i k L x wr.heap.size #[Value.int IntKind.i64 x.1.1, Value.slice (some ⟨bz, oz, none⟩) x.1.2.length dk, Value.slice Ck x.2.length ek] _ (.int .i64 0) (wr.alloc (Obj.cells #[Value.int IntKind.i64 x.1.1, Value.slice (some ⟨bz, oz, none⟩) x.1.2.length dk, Value.slice Ck x.2.length ek] 70)) from
          ⟨0, Nat.zero_le _, rfl, by rw [show pairs i x (L.take 0) = [] from rfl, List.append_nil]; exact KO.out.below hsr TA.out, KX.out, fun e => by have := (listed_lt KO.out.1 _ e).2; omega⟩)
        go_upto_region 6 with fail
        clear c0k c1k c2k cz v1 hp
        have hbw : w1.heap.size ≤ wr.heap.size := by omega
        generalize wr.alloc (Obj.cells #[Value.int IntKind.i64 x.1.1, Value.slice (some ⟨bz, oz, none⟩) x.1.2.length dk, Value.slice Ck x.2.length ek] 70) = wa at *
        generalize hbu : wr.heap.size = bu at *
        have hsw := HSA.out
        have h8w : w.heap.size < wa.heap.size := by omega
        clear TA
        go_wp2
        go_loopw [6, 32] (fun v s wr => OutRel2 w1.heap.size w1 i k L x bu #[Value.int IntKind.i64 x.1.1, Value.slice (some ⟨bz, oz, none⟩) x.1.2.length dk, Value.slice Ck x.2.length ek] v s wr) (fun _ s _ => L.length - (intOf s).toNat)
        case atStart => exact START.out
        case round =>
          obtain ⟨j, hj, rfl, hO2, hlv, hvb⟩ := hrel
          obtain ⟨w5, rfl⟩ : ∃ w5 : World, w5 = wr := ⟨_, rfl⟩
          have KO2 := Lib.hid hO2
          have KX2 := Lib.hid hlv
          have KV := Lib.hid hvb
          have hs5 := hO2.2.1.size
          clear hO2 hlv hvb START KX KO
          by_cases hj2 : j < L.length
          · have hj0 : (0 : Int) ≤ (j : Int) := by omega
            have hj1 : (j : Int) < (L.length : Int) := by omega
            have b15 := KO2.out.2.1
            obtain ⟨bj, oj, fj, Bj, dj, Cj, ej, loj, hij, loj', hij', eA, hblj, c0j, c1j, c2j, hdj, hej, r1j, r2j, hrepj, hfj⟩ := drs_at A1.out hj2
            injection eA with eA
            injection eA with e1 e2
            subst e1
            subst e2
            have c0j := (b15.cell (p := ⟨bk, ok + j * 3, none⟩) hblj).trans c0j
            have c1j := (b15.cell (p := ⟨bk, ok + j * 3 + 1, none⟩) hblj).trans c1j
            have c2j := (b15.cell (p := ⟨bk, ok + j * 3 + 2, none⟩) hblj).trans c2j
            have hokj := HOK.out _ (List.getElem_mem hj2)
            have hlij := HLEN.out _ (List.getElem_mem hj2)
            have HPT := Lib.hid (show pairs i x (L.take (j + 1)) = pairs i x (L.take j) ++ (if cf L[j] i < 0 then joinD x L[j] i else none).toList from filterMap_take (fun y => if cf y i < 0 then joinD x y i else none) hj2)
            have HPL := Lib.hid (pref_len (i := i) (j := j + 1) hlt HX.out HPP.out)
            generalize L[j] = y at *
            have tb : Below w5.heap.size w5 (w5.alloc (Obj.cells #[Value.int IntKind.i64 y.1.1, Value.slice Bj y.1.2.length dj, Value.slice Cj y.2.length ej] 70)) := (Below.refl _ _).alloc (Nat.le_refl _) _
            have b16 := b15.trans (tb.mono hs5)
            obtain ⟨by', oy, rfl, _, cy⟩ := IntK.at_ (r1j.below b16) hlij.1
            rw [← cf_get hlij.1] at cy
            have hi4' : (i : Int) < (y.1.2.length : Int) := by have := hlij.1; omega
            have v1 := (V1.out.below b16).cell 0 (.int .i64 i) rfl
            have kx := KX2.out.below tb
            have x0 := kx.cell 0 (.int .i64 x.1.1) rfl
            have x1 := kx.cell 1 (.slice (some ⟨bz, oz, none⟩) x.1.2.length dk) rfl
            have x2 := kx.cell 2 (.slice Ck x.2.length ek) rfl
            have KXB := Lib.hid kx
            have hlu := KX2.out.lt
            obtain ⟨u, hu2⟩ : ∃ u : Int, cf y i = u := ⟨_, rfl⟩
            have HU := Lib.hid hu2
            rw [hu2] at cy HPT
            have hneq1 : bu ≠ w5.heap.size := by omega
            have hneq2 : w.heap.size ≠ w5.heap.size := by omega
            by_cases hneg : u < 0
            · have hnd : decide (0 ≤ u) = false := decide_eq_false (by omega)
              rw [if_pos hneg] at HPT
              have CC := Lib.hid (cancel lok hik lok' hik' loj hij loj' hij' (some ⟨bz, oz, none⟩) Ck (some ⟨by', oy, none⟩) Cj dk ek dj ej i x y _ HOKK.out hokj hm hlik.1 HPP.out (by rw [HU.out]; exact hneg) (R1K.out.below b16) (R2K.out.below b16) (r1j.below b16) (r2j.below b16))
              obtain ⟨r, hr⟩ : ∃ r, joinD x y i = r := ⟨_, rfl⟩
              rw [hr] at CC HPT
              obtain ⟨M, hM⟩ : ∃ M, zeros i L ++ combs i (L.take k) L ++ pairs i x (L.take j) = M := ⟨_, rfl⟩
              have HM := Lib.hid hM
              have KO3 := Lib.hid (show OutI w1.heap.size w1 _ M w5 from by rw [← hM]; exact KO2.out)
              clear hrepj hfj hokj hdj hej r1j r2j hr hM KO2
              go_wp2
              refine wp_scope_ahead 0 rfl ?_
              go_wp2_with fail
              refine (Calls.mono CC.out) ?_
              rintro e u4 ⟨z5, A5, n5, a5, B5, m5, c5, rfl, hr5, b5⟩
              have tc : Below u4.heap.size u4 (u4.alloc (Obj.cells #[Value.int IntKind.i64 z5, Value.slice A5 n5 a5, Value.slice B5 m5 c5] 70)) := (Below.refl _ _).alloc (Nat.le_refl _) _
              have hsu := b5.size
              have b57 := tb.trans ((b5.trans (tc.mono b5.size)).mono tb.size)
              have HR5 := Lib.hid hr5
              have TC := Lib.hid tc
              have B57 := Lib.hid b57
              have V7 := Lib.hid (Lvar.new u4 #[Value.int IntKind.i64 z5, Value.slice A5 n5 a5, Value.slice B5 m5 c5] 70)
              clear hr5 b5 tc b57 CC v1 x0 x1 x2 c0j c1j c2j cy
              go_upto_region 11 with fail
              have hs7 := TC.out.size
              generalize u4.alloc (Obj.cells #[Value.int IntKind.i64 z5, Value.slice A5 n5 a5, Value.slice B5 m5 c5] 70) = w7 at *
              have KO7 := Lib.hid (KO3.out.below hs5 B57.out)
              have KX7 := Lib.hid (KX2.out.below B57.out)
              have hs57 := B57.out.size
              have VLT0 := Lib.hid (listed_lt KO3.out.1)
              clear KO3 KXB
              generalize hq1 : r.isSome = q1 at *
              cases r with
              | none =>
                have hq1 := (show false = q1 from hq1)
                subst hq1
                have hn := Lib.hid (show OutRel2 w1.heap.size w1 i k L x bu #[Value.int IntKind.i64 x.1.1, Value.slice (some ⟨bz, oz, none⟩) x.1.2.length dk, Value.slice Ck x.2.length ek] _ (.int .i64 ((j : Int) + 1)) _ from ⟨j + 1, by omega, by go_num, by rw [HPT.out, show (Option.toList (none : Option DR)) = [] from rfl, List.append_nil, HM.out]; exact KO7.out, KX7.out, KV.out⟩)
                clear HR5 KO7
                go_wp2
                go_step3
                refine ⟨rfl, ?_⟩
                go_wp2
                simp only [Exit.noGoto]
                go_wp2
                go_roundw
                case rel => exact hn.out
                case measure => simp [intOf]; omega
              | some dd =>
                have hq1 := (show true = q1 from hq1)
                subst hq1
                obtain ⟨rfl, rfl, rfl, hna, hmc, rA, rB⟩ := HR5.out dd rfl
                obtain ⟨fd, hrd, hfd⟩ := dr_close (z := dd.1.1) (rA.below TC.out) (rB.below TC.out) hna hmc
                have HT := Lib.hid (show zeros i L ++ combs i (L.take k) L ++ pairs i x (L.take (j + 1)) = M ++ [dd] from by rw [HPT.out, ← HM.out, ← List.append_assoc]; rfl)
                have v70 := V7.out.cell 0 (.int .i64 dd.1.1) rfl
                have v71 := V7.out.cell 1 (.slice A5 dd.1.2.length a5) rfl
                have v72 := V7.out.cell 2 (.slice B5 dd.2.length c5) rfl
                have v7l := V7.out.lt
                obtain ⟨hLi, hb7, h60⟩ := KO7.out
                have VLT := VLT0
                obtain ⟨es, hes, hown, he, hd⟩ := hLi
                have HES := Lib.hid hes
                have HOW := Lib.hid hown
                have HEL := Lib.hid he
                have HD := Lib.hid hd
                have HBB := Lib.hid hb7
                obtain ⟨n5, hn5⟩ : ∃ n5, M.length + 1 = n5 := ⟨_, rfl⟩
                have HN5 := Lib.hid hn5
                have hn561 : n5 ≤ 61 := by omega
                have hbase7 : w1.heap.size ≤ w7.heap.size := by omega
                clear hes hown he hd hb7 HR5 V7
                go_wp2_with (at_builtin; go_loud (refine wpList_append_where rfl (.tmp 52) (.tmp 54) 64 rfl w1.heap.size 70 i0 (.agg #[.int .i64 0, .slice none 0 0, .slice none 0 0]) 3 56 hu.out HI.out HZ0.out HZ1.out HZ2.out rfl (by decide) _ _ _ rfl (HOW.out.alloc _) ⟨w7.heap.size, 0, none⟩ 1 1 [.int .i64 dd.1.1, .slice A5 dd.1.2.length a5, .slice B5 dd.2.length c5] rfl rfl (World.news_of_block (cs := #[.int .i64 dd.1.1, .slice A5 dd.1.2.length a5, .slice B5 dd.2.length c5]) (heap_alloc_new w7 _)) (by simp [Value.oneCell']) (by unfold maxLen; omega) (by omega) (by simp; omega) ?_); intro v4 w4 hown4 hgrow hwh; (rw [HN5.out] at hown4); (obtain ⟨g4, cap4, rfl, hg41, hg42⟩ := hown4.form (by omega)))
                all_goals
                  have hxd := Lib.hid (fun b (hb' : b ∈ fd) => (show _ ≠ some b from fun e => by
                    have h7 := hfd b hb'
                    have h8 := (VLT.out b e).2
                    simp only [World.size_alloc] at h7
                    omega))
                  have hn := listI_snoc hbase7 HES.out HEL.out HD.out HBB.out HOW.out hrd hxd.out _ (by rw [HN5.out]; exact hown4) hgrow hwh
                  rw [← HT.out] at hn
                · have hle : 60 < (elimD L i).length := by
                    have h := HPL.out
                    rw [HT.out, List.length_append, List.length_singleton, HN5.out] at h
                    omega
                  have hd60 : decide ((elimD L i).length ≤ 60) = false := decide_eq_false (by omega)
                  have hd61 : decide ((n5 : Int) ≤ 60) = false := decide_eq_false (by omega)
                  have HB := Lib.hid (BA.out.trans (hn.2.mono (by have := HS1.out; omega)))
                  clear hxd hn hown4 hgrow hwh hrd hfd v70 v71 v72 rA rB
                  simp only [Exit.jump]
                  go_wp2
                  go_ret2
                  exact ⟨_, _, _, by rw [hd60]; rfl, fun h => absurd h (by omega), HB.out⟩
                · have hlv := lvar_grown (KX7.out.alloc _) hgrow KV.out
                  have hvb : (Value.slice (some ⟨g4, 0, none⟩) n5 cap4).ownBlock ≠ some bu := fun e => by
                    rcases hwh with h | h
                    · exact KV.out (h ▸ e)
                    · have := h bu e
                      simp only [World.size_alloc] at this
                      omega
                  have hnn := Lib.hid (show OutRel2 w1.heap.size w1 i k L x bu #[Value.int IntKind.i64 x.1.1, Value.slice (some ⟨bz, oz, none⟩) x.1.2.length dk, Value.slice Ck x.2.length ek] (Value.slice (some ⟨g4, 0, none⟩) n5 cap4) (.int .i64 ((j : Int) + 1)) w4 from ⟨j + 1, by omega, by go_num, ⟨hn.1, hn.2, by rw [HT.out, List.length_append, List.length_singleton, HN5.out]; omega⟩, hlv, hvb⟩)
                  clear hxd hn hlv hvb hown4 hgrow hwh hrd hfd v70 v71 v72 rA rB
                  go_step3
                  go_wp2
                  try simp only [Exit.jump]
                  go_wp2
                  go_roundw
                  case rel => exact hnn.out
                  case measure => simp [intOf]; omega
            · have hnd : decide (0 ≤ u) = true := decide_eq_true (by omega)
              have hn := Lib.hid (show OutRel2 w1.heap.size w1 i k L x bu #[Value.int IntKind.i64 x.1.1, Value.slice (some ⟨bz, oz, none⟩) x.1.2.length dk, Value.slice Ck x.2.length ek] _ (.int .i64 ((j : Int) + 1)) _ from ⟨j + 1, by omega, by go_num, by rw [HPT.out, if_neg hneg]; rw [show (Option.toList (none : Option DR)) = [] from rfl, List.append_nil]; exact KO2.out.below hs5 tb, KXB.out, KV.out⟩)
              clear hrepj hfj hokj hdj hej r1j r2j
              go_wp2
              refine wp_scope_ahead 0 rfl ?_
              go_wp2
              simp only [Exit.jump]
              go_wp2
              go_roundw
              case rel => exact hn.out
              case measure => simp [intOf]; omega
          · obtain rfl : j = L.length := by omega
            have hlz : decide ((L.length : Int) < (L.length : Int)) = false := by simp
            have hn := Lib.hid (show OutI w1.heap.size w1 _ (zeros i L ++ combs i (L.take (k + 1)) L) w5 from by
              have h := KO2.out
              rw [List.take_length] at h
              rw [HCT.out, if_pos HPP.out, ← List.append_assoc]
              exact h)
            clear KO2 KX2 KV
            go_wp2
            go_roundw
            case rel => exact ⟨k + 1, by omega, by go_num, hn.out⟩
            case measure => simp [intOf]; omega
      · have hpd : decide (p ≤ 0) = true := decide_eq_true (by omega)
        have hn := Lib.hid (show OutI w1.heap.size w1 _ (zeros i L ++ combs i (L.take (k + 1)) L) _ from by
          rw [HCT.out, hp, if_neg hpp, List.append_nil]
          exact KO.out.below hsr TA.out)
        clear hp KX
        go_wp2
        go_roundw
        case rel => exact ⟨k + 1, by omega, by go_num, hn.out⟩
        case measure => simp [intOf]; omega
    · obtain rfl : k = L.length := by omega
      have hlz : decide ((L.length : Int) < (L.length : Int)) = false := by simp
      have hM : zeros i L ++ combs i (L.take L.length) L = elimD L i := by rw [List.take_length]; rfl
      have hO := KO.out
      rw [hM] at hO
      obtain ⟨G, g, fg, rfl, hG⟩ := listed_slice hO.1
      have h60 := hO.2.2
      have hd60 : decide ((elimD L i).length ≤ 60) = true := decide_eq_true h60
      have hd61 : decide (((elimD L i).length : Int) ≤ 60) = true := decide_eq_true (by omega)
      have HG := Lib.hid hG
      have HB := Lib.hid (BA.out.trans (hO.2.1.mono (by have := HS1.out; omega)))
      clear hO hG KO hM
      go_wp2
      go_ret2
      exact ⟨G, _, g, by rw [hd60]; rfl, fun _ => ⟨rfl, fg, HG.out⟩, HB.out⟩
end ElimI
end Go.Proofs.Ytmkelfjnjnjgbaa
