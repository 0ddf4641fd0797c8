/-
  The landed package sha: a text is read.
-/
import Derived.Test.YtbindnoncghjjaaDoorShaF
namespace Go.Proofs.YtbindnoncghjjaaDoor
open Go.RowKit
set_option linter.unusedVariables false

theorem zeroDig : ∀ w, (zeroValue 23).run Tryd.prog w = .ok (.agg z32) w := fun w => by
  have h := info32
  cases hq : Tryd.prog.info? 23 with
  | none => rw [hq] at h; cases h
  | some i =>
    rw [hq] at h
    simp only [Option.map_some, Option.some.injEq, Prod.mk.injEq] at h
    simp [zeroValue, typeInfo, hq, h.1]

theorem or4 (p q : UInt8) (hp : p.toNat < 16) (hq : q.toNat < 16) : bits .or .u8 ((p.toNat : Int) * 16 % 256) (q.toNat : Int) = ((UInt8.ofNat (16 * p.toNat + q.toNat)).toNat : Int) := by
  have h : ∀ a b : Fin 16, bits .or .u8 ((a.1 : Int) * 16 % 256) (b.1 : Int) = ((UInt8.ofNat (16 * a.1 + b.1)).toNat : Int) := by decide +kernel
  exact h ⟨_, hp⟩ ⟨_, hq⟩
theorem digitV_of (c : UInt8) (h : 0 ≤ digitI c) : ((digitV c).toNat : Int) = digitI c ∧ (digitV c).toNat < 16 := by
  have h2 := digitI_lt c
  unfold digitV
  rw [if_pos h]
  have : (UInt8.ofNat (digitI c).toNat).toNat = (digitI c).toNat := by simp; omega
  omega
theorem byteAt_of (s : ByteArray) (i : Nat) (h1 : 0 ≤ digitI (cAt s (2 * i))) (h2 : 0 ≤ digitI (cAt s (2 * i + 1))) :
    byteAt s i = UInt8.ofNat (16 * (digitV (cAt s (2 * i))).toNat + (digitV (cAt s (2 * i + 1))).toNat) := by
  obtain ⟨a1, a2⟩ := digitV_of _ h1
  obtain ⟨b1, b2⟩ := digitV_of _ h2
  unfold byteAt
  congr 1
  omega
theorem readOk_not {s : ByteArray} (h : s.size = 64) (i : Nat) (hi : i < 32) (hn : okAt s i = false) : readOk s = false := by
  unfold readOk
  rw [Bool.and_eq_false_iff]
  right
  rw [List.all_eq_false]
  exact ⟨i, by simp [hi], by simp [hn]⟩
theorem readOk_yes {s : ByteArray} (h : s.size = 64) (hok : ∀ k, k < 32 → okAt s k = true) : readOk s = true := by
  unfold readOk
  rw [Bool.and_eq_true]
  refine ⟨by simpa using h, ?_⟩
  rw [List.all_eq_true]
  intro k hk
  exact hok k (by simpa using hk)
theorem readOk_size {s : ByteArray} (h : s.size ≠ 64) : readOk s = false := by
  unfold readOk
  rw [Bool.and_eq_false_iff]
  left
  simpa using h

/-- What a reader answers. -/
def readA (s : ByteArray) : Array Value := if readOk s then ((readB s).map bv).toArray else z32
def readE (s : ByteArray) : Int := if readOk s then 0 else 2

section
variable {P : Program}
theorem results_cell_tmp {fn : Func} {p q : Tmp} {ty : TypeId} (h : fn.results = #[.cell p ty, .tmp q]) (tmps : Array Value) (w : World) (g : Nat) (t : TypeId) (cs : Array Value) (fr : Nat × Nat) (d : TypeDesc) (v : Value)
    (hp : tmps.getD p undef = .pointer (some ⟨g, 0, none⟩)) (hv : tmps.getD q undef = v) (hg : w.heap[g]? = some (.cells cs t fr))
    (hu : P.underlying ty = some d) (hd : (match d with | .struct _ | .array _ _ => true | _ => false) = true) (hi : (P.info? ty).map (·.size) = some cs.size) :
    (results fn tmps).run P w = .ok (.tuple #[.agg cs, v]) w := by
  have hp' : tmps[p]?.getD undef = .pointer (some ⟨g, 0, none⟩) := by simpa using hp
  have hv' : tmps[q]?.getD undef = v := by simpa using hv
  simp [results, h, hp', hv', asAddr, run_loadVar_row w g t ty cs fr d hg hu hd hi]
end

structure RI (w wr : World) (l : List UInt8) (i : Nat) : Prop where
  below : Below w.heap.size w wr
  res : wr.heap[w.heap.size]? = some (.cells z32 23 (0, 0))
  cur : wr.heap[w.heap.size + 1]? = some (.cells ((upTo l i).map bv).toArray 23 (0, 0))
theorem RI.new (w : World) (l : List UInt8) : RI w ((w.alloc (.cells z32 23)).alloc (.cells z32 23)) l 0 :=
  ⟨(ext_alloc w _).alloc (by simp) _, (Below.heap_alloc _ _ _ (by simp)).trans (heap_alloc_new w _), by
    have e : (w.alloc (.cells z32 23)).heap.size = w.heap.size + 1 := by simp
    rw [← e, upTo_zero]
    exact heap_alloc_new (w.alloc (.cells z32 23)) (.cells z32 23)⟩

set_option maxRecDepth 100000 in
set_option maxHeartbeats 1000000 in
theorem sRead_any (s : ByteArray) (w : World) (hs : s.size ≤ 1000000) :
    Calls Tryd.prog 8 #[.string s] w fun r w' => r = .returned (.tuple #[.agg (readA s), .int .i64 (readE s)]) ∧ Below w.heap.size w w' := by
  have zd := zeroDig
  by_cases h64 : s.size = 64
  · have h64i : ((s.size : Int) != 64) = false := by rw [h64]; rfl
    go_enter Tryd.func8, Tryd.ntmps8
    go_wp2_with (first
      | (with_reducible refine wpList_alloc_row rfl 23 rfl z32 info32 ?_))
    go_loopw [14] (fun v wr => ∃ i : Nat, i ≤ 32 ∧ v = .int .i64 i ∧ RI w wr (readB s) i ∧ ∀ k, k < i → okAt s k = true) (fun v _ => 32 - (intOf v).toNat)
    case atStart => exact ⟨0, Nat.zero_le _, rfl, RI.new w _, fun k hk => absurd hk (by omega)⟩
    case round =>
      obtain ⟨i, hi, rfl, hR, hok⟩ := hrel
      by_cases hlt : i < 32
      · have x1 : (Instr.index 9 (.string s) (.int .i64 (2 * (i : Int)))).run Tryd.prog wr = .ok (.int .u8 ((cAt s (2 * i)).toNat : Int)) wr := by
          have h := run_index_str (P := Tryd.prog) 9 (2 * i) s wr underStr (by omega)
          simpa using h
        have x2 : ∀ w, (Instr.index 9 (.string s) (.int .i64 (2 * (i : Int) + 1))).run Tryd.prog w = .ok (.int .u8 ((cAt s (2 * i + 1)).toNat : Int)) w := fun w => by
          have h := run_index_str (P := Tryd.prog) 9 (2 * i + 1) s w underStr (by omega)
          simpa using h
        have f1 : IntKind.i64.wrap (2 * (i : Int)) = 2 * (i : Int) := IntWalk.i64_in _ (by omega)
        have f2 : IntKind.i64.wrap (2 * (i : Int) + 1) = 2 * (i : Int) + 1 := IntWalk.i64_in _ (by omega)
        have Ok : okAt s i = (decide (0 ≤ digitI (cAt s (2 * i))) && decide (0 ≤ digitI (cAt s (2 * i + 1)))) := rfl
        have B := byteAt_of s i
        have j1 : (i : Int) < 32 := by omega
        generalize cAt s (2 * i) = a at *
        generalize cAt s (2 * i + 1) = b at *
        replace B := hid B
        replace Ok := hid Ok
        replace hok := hid hok
        replace hR := hid hR
        by_cases pa : 0 ≤ digitI a
        · have da : decide (0 ≤ digitI a) = true := by rw [decide_eq_true_iff]; exact pa
          by_cases pb : 0 ≤ digitI b
          · as_aux_lemma =>
            have db : decide (0 ≤ digitI b) = true := by rw [decide_eq_true_iff]; exact pb
            have Ok2 := hid (show okAt s i = true by rw [Ok.out, da, db]; rfl)
            have B2 := hid (B.out pa pb)
            have ob := or4 (digitV a) (digitV b) (digitV_of a pa).2 (digitV_of b pb).2
            rw [← B2.out] at ob
            have S := hid (upTo_step (readB s) i (readB_len s) hlt _ (readB_get s i hlt))
            have cD := block_bcell hR.out.cur i (by rw [upTo_len _ _ (readB_len s) hi]; omega)
            have hf := block_frozen hR.out.cur i
            generalize byteAt s i = y at *
            go_wp2_with fail
            refine (sdigit_any a _).mono ?_
            rintro e w2 ⟨rfl, rfl⟩
            go_wp2_with fail
            refine (sdigit_any b _).mono ?_
            rintro e w2 ⟨rfl, rfl⟩
            go_wp2_with fail
            go_roundw
            case rel =>
              refine ⟨i + 1, by omega, by go_num, ⟨hR.out.below.setCell (by simp) _, (Below.heap_setCell _ _ _ _ (by simp)).trans hR.out.res, ?_⟩, ?_⟩
              · rw [← S.out]
                exact block_bset hR.out.cur i y
              · intro k hk
                rcases Nat.lt_or_ge k i with h | h
                · exact hok.out k h
                · obtain rfl : k = i := by omega
                  exact Ok2.out
            case measure => simp [intOf]; omega
          · as_aux_lemma =>
            have db : decide (0 ≤ digitI b) = false := by rw [decide_eq_false_iff_not]; exact pb
            have Q := hid (readOk_not h64 i hlt (by rw [Ok.out, da, db]; rfl))
            have E1 := hid (show readA s = z32 by unfold readA; rw [if_neg (by rw [Q.out]; decide)])
            have E2 := hid (show readE s = 2 by unfold readE; rw [if_neg (by rw [Q.out]; decide)])
            have R := hid hR.out.res
            go_wp2_with fail
            refine (sdigit_any a _).mono ?_
            rintro e w2 ⟨rfl, rfl⟩
            go_wp2_with fail
            refine (sdigit_any b _).mono ?_
            rintro e w2 ⟨rfl, rfl⟩
            go_wp2_with (first
              | ((with_reducible refine wpList_store_row rfl 23 (.tmp 2) (.tmp 40) rfl w.heap.size _ rfl rfl 23 z32 ?_ ?_ ?_ ?_ ?_); exact R.out; exact size32; exact z32_size; decide +kernel; intro w3 hg3 hb3 hs3))
            refine bodyPost_ret (v := .tuple #[.agg z32, .int .i64 2]) ?_ rfl ⟨by rw [E1.out, E2.out], ?_⟩
            · exact results_cell_tmp Tryd.results8 _ _ w.heap.size 23 _ (0, 0) _ _ rfl rfl hg3 Tryd.underlying23 rfl size32
            · exact hR.out.below.grown hb3 hR.out.below.size (by simp)
        · as_aux_lemma =>
          have da : decide (0 ≤ digitI a) = false := by rw [decide_eq_false_iff_not]; exact pa
          have Q := hid (readOk_not h64 i hlt (by rw [Ok.out, da]; rfl))
          have E1 := hid (show readA s = z32 by unfold readA; rw [if_neg (by rw [Q.out]; decide)])
          have E2 := hid (show readE s = 2 by unfold readE; rw [if_neg (by rw [Q.out]; decide)])
          have R := hid hR.out.res
          go_wp2_with fail
          refine (sdigit_any a _).mono ?_
          rintro e w2 ⟨rfl, rfl⟩
          go_wp2_with fail
          refine (sdigit_any b _).mono ?_
          rintro e w2 ⟨rfl, rfl⟩
          go_wp2_with (first
            | ((with_reducible refine wpList_store_row rfl 23 (.tmp 2) (.tmp 40) rfl w.heap.size _ rfl rfl 23 z32 ?_ ?_ ?_ ?_ ?_); exact R.out; exact size32; exact z32_size; decide +kernel; intro w3 hg3 hb3 hs3))
          refine bodyPost_ret (v := .tuple #[.agg z32, .int .i64 2]) ?_ rfl ⟨by rw [E1.out, E2.out], ?_⟩
          · exact results_cell_tmp Tryd.results8 _ _ w.heap.size 23 _ (0, 0) _ _ rfl rfl hg3 Tryd.underlying23 rfl size32
          · exact hR.out.below.grown hb3 hR.out.below.size (by simp)
      · as_aux_lemma =>
        obtain rfl : i = 32 := by omega
        have Q := hid (readOk_yes h64 hok)
        have E1 := hid (show readA s = ((readB s).map bv).toArray by unfold readA; rw [if_pos Q.out])
        have E2 := hid (show readE s = 0 by unfold readE; rw [if_pos Q.out])
        have hcur := hR.cur
        rw [upTo_all _ (readB_len s)] at hcur
        have hres := hid hR.res
        replace hcur := hid hcur
        replace hR := hid hR
        have hz : (((readB s).map bv).toArray).size = 32 := by simp [readB_len]
        have h1 := bvs_all (readB s)
        generalize ((readB s).map bv).toArray = rb at *
        replace hok := trivial
        go_wp2_with (first
          | ((with_reducible refine wpList_load_row rfl 23 (.tmp 4) rfl (w.heap.size + 1) rfl 23 rb (0, 0) _ ?_ Tryd.underlying23 rfl ?_ ?_); exact hcur.out; (rw [hz]; exact size32))
          | ((with_reducible refine wpList_store_row rfl 23 (.tmp 2) (.tmp 48) rfl w.heap.size _ rfl rfl 23 z32 ?_ ?_ ?_ ?_ ?_); exact hres.out; (rw [hz]; exact size32); (rw [hz]; exact z32_size); exact h1; intro w3 hg3 hb3 hs3))
        refine bodyPost_ret (v := .tuple #[.agg rb, .int .i64 0]) ?_ rfl ⟨by rw [E1.out, E2.out], ?_⟩
        · exact results_cell_tmp Tryd.results8 _ _ w.heap.size 23 _ (0, 0) _ _ rfl rfl hg3 Tryd.underlying23 rfl (by rw [hz]; exact size32)
        · exact hR.out.below.grown hb3 hR.out.below.size (by simp)
  · have h64i : ((s.size : Int) != 64) = true := by rw [bne_iff_ne]; omega
    have Q := hid (readOk_size h64)
    have E1 := hid (show readA s = z32 by unfold readA; rw [if_neg (by rw [Q.out]; decide)])
    have E2 := hid (show readE s = 2 by unfold readE; rw [if_neg (by rw [Q.out]; decide)])
    replace h64 := hid h64
    go_enter Tryd.func8, Tryd.ntmps8
    go_wp2_with (first
      | (with_reducible refine wpList_alloc_row rfl 23 rfl z32 info32 ?_)
      | ((with_reducible refine wpList_store_row rfl 23 (.tmp 2) (.tmp 13) rfl w.heap.size _ rfl rfl 23 z32 ?_ ?_ ?_ ?_ ?_); exact heap_alloc_new w _; exact size32; exact z32_size; decide +kernel; intro w3 hg3 hb3 hs3))
    refine bodyPost_ret (v := .tuple #[.agg z32, .int .i64 2]) ?_ rfl ⟨by rw [E1.out, E2.out], ?_⟩
    · exact results_cell_tmp Tryd.results8 _ _ w.heap.size 23 _ (0, 0) _ _ rfl rfl hg3 Tryd.underlying23 rfl size32
    · exact (ext_alloc w _).grown hb3 (by simp) (by simp)
end Go.Proofs.YtbindnoncghjjaaDoor
