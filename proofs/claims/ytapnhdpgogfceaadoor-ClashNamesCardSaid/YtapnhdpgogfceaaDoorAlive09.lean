/-
  Layer 9's laws: a proof of the key 0 with "a", the chapter's first example, whether two proofs of one key tell unlike things.
-/
import Derived.Test.YtapnhdpgogfceaaDoorClF
import Derived.Test.YtapnhdpgogfceaaDoorAlive08
import Derived.Test.YtapnhdpgogfceaaDoorPfM
import Derived.Test.YtapnhdpgogfceaaDoorRef07b
import Derived.Test.YtapnhdpgogfceaaDoorMem
import Derived.Test.YtapnhdpgogfceaaDoorBits
namespace Go.Proofs.YtapnhdpgogfceaaDoor
open Go.RowKit
set_option linter.unusedVariables false
set_option linter.unusedSimpArgs false
set_option maxRecDepth 100000

def ownP : Pf := ⟨z0, 1, z0, [97], []⟩
theorem built_own (v : List UInt8) (A : Option Addr) (c : Nat) : Tryd.prog.built 30 [(1, bv 1), (3, .slice A v.length c)] = some (pfC ⟨z0, 1, z0, v, []⟩ A c none 0).toArray := by
  have hz : (z0.1.map bv).length = 32 := by rw [List.length_map]; exact z0.2
  have c3 : (Value.slice A v.length c).cells = #[Value.slice A v.length c] := rfl
  have c4 : (bv 1).cells = #[bv 1] := rfl
  rw [built_places placesPf, fill_cons (off := 32) (by rw [c4]; rfl) (by rw [c4]; decide +kernel)]
  have e1 : lay zPf.cells.toList 32 (bv 1).cells.toList = z0.1.map bv ++ ([bv 1] ++ (z0.1.map bv ++ ([Value.slice none 0 0] ++ [Value.slice none 0 0]))) := by
    rw [c4, zPf_list]
    have := lay_mid (z0.1.map bv) [bv 0] (z0.1.map bv ++ ([Value.slice none 0 0] ++ [Value.slice none 0 0])) [bv 1] rfl
    rw [hz] at this
    simpa using this
  rw [e1, fill_cons (off := 65) (by rw [c3]; rfl) (by rw [c3]; simp [hz])]
  have e2 : lay (z0.1.map bv ++ ([bv 1] ++ (z0.1.map bv ++ ([Value.slice none 0 0] ++ [Value.slice none 0 0])))) 65 (Value.slice A v.length c).cells.toList = pfC ⟨z0, 1, z0, v, []⟩ A c none 0 := by
    rw [c3]
    have := lay_mid (z0.1.map bv ++ [bv 1] ++ z0.1.map bv) [Value.slice none 0 0] [Value.slice none 0 0] [Value.slice A v.length c] rfl
    rw [show (z0.1.map bv ++ [bv 1] ++ z0.1.map bv).length = 65 by simp [hz]] at this
    simp only [List.append_assoc, List.append_nil] at this
    rw [this]
    simp [pfC]
  simp only [List.toList_toArray]
  rw [e2, Instr.fill]
theorem res_pf9 {fn : Func} {p : Tmp} (h : fn.results = #[.cell p 30]) (tmps : Array Value) (w : World) (g : Nat) (cs : List Value) (e1 : tmps.getD p undef = .pointer (some ⟨g, 0, none⟩))
    (hg : w.heap[g]? = some (.cells cs.toArray 30 (0, 0))) (hl : cs.length = 67) : (results fn tmps).run Tryd.prog w = .ok (.agg cs.toArray) w :=
  results_cell_row h tmps w g 30 cs.toArray (0, 0) _ e1 hg Tryd.underlying30 rfl (by rw [List.size_toArray, hl]; exact sizePf)
set_option maxHeartbeats 2000000 in
theorem own_any (w : World) : Calls Tryd.prog 7 #[] w fun e w' => ∃ A, e = .returned (.agg (pfC ownP A 1 none 0).toArray) ∧ Rd w' A [97] ∧ Below w.heap.size w w' := by
  have hut := Tryd.underlying30
  have kc := fun o C n c => conv_lit2 w o C n c
  have z0' := heap_alloc_new w (.cells zPfC 30)
  have B1 := ext_alloc w (.cells zPfC 30)
  have B2 := ext_alloc (w.alloc (.cells zPfC 30)) (.cells #[.int .u8 97] 5 (1, 2))
  have W2 := hid (B1.trans (B2.mono B1.size))
  have z2 := hid ((B2.block _ (by simp)).trans z0')
  have hrd := hid (Rd.litf (w.alloc (.cells zPfC 30)) 5 [97] #[.int .u8 97] (w.heap.size + 1) (1, 2) (World.size_alloc _ _) rfl)
  have hB := hid (built_own [97] (some ⟨w.heap.size + 1, 0, none⟩) 1)
  have s2 := hid (sizePfS ownP (some ⟨w.heap.size + 1, 0, none⟩) 1 none 0)
  have s3 := hid (show zPfC.size = (pfC ownP (some ⟨w.heap.size + 1, 0, none⟩) 1 none 0).toArray.size from Eq.trans (show zPfC.size = 67 from rfl) (by rw [List.size_toArray, len_pf]))
  have s4 := hid (one_pf ownP (some ⟨w.heap.size + 1, 0, none⟩) 1 none 0)
  have s5 := hid (len_pf ownP (some ⟨w.heap.size + 1, 0, none⟩) 1 none 0)
  obtain ⟨cs, hcs⟩ : ∃ cs, pfC ownP (some ⟨w.heap.size + 1, 0, none⟩) 1 none 0 = cs := ⟨_, rfl⟩
  rw [show pfC ⟨z0, 1, z0, [97], []⟩ (some ⟨w.heap.size + 1, 0, none⟩) 1 none 0 = cs from hcs] at hB
  rw [hcs] at s2 s3 s4 s5
  replace hcs := hid hcs
  clear z0' B1 B2
  go_enter Tryd.func7, Tryd.ntmps7
  go_wp2_with (first
    | (with_reducible refine wpList_alloc_row rfl 30 rfl zPfC zInfoPf ?_)
    | ((with_reducible refine wpList_built rfl 30 _ rfl cs.toArray [(1, bv 1), (3, .slice (some ⟨w.heap.size + 1, 0, none⟩) 1 1)] ?_ ?_ ?_); exact hB.out; rfl)
    | ((with_reducible refine wpList_store_row rfl 30 (.tmp 0) (.tmp 3) rfl w.heap.size _ rfl rfl 30 zPfC ?_ ?_ ?_ ?_ ?_); exact z2.out; exact s2.out; exact s3.out; exact s4.out; intro w3 hg3 hb3 hs3))
  exact bodyPost_ret (res_pf9 rfl _ _ w.heap.size cs rfl hg3 s5.out) rfl ⟨some ⟨w.heap.size + 1, 0, none⟩, by rw [hcs.out], hrd.out.grown hb3 (fun a ha e => by injection ha with ha; subst ha; injection e with e; simp only at e; omega), W2.out.grown hb3 W2.out.size (fun g e => by injection e with e; omega)⟩
theorem seek_own : seekP pf0 ownP = ([0], tagB 1 [z0.1, [97]]) := by decide +kernel
theorem seek_ownE : seekE pf0 ownP = 0 := by decide +kernel
set_option maxHeartbeats 4000000 in
theorem alive9_any (w : World) (hT : Tab w) : Calls Tryd.prog 10 #[] w fun e w' => e = .returned (.bool true) ∧ Below w.heap.size w w' := by
  have hb0 := hid (show Tryd.prog.built 30 [] = some (pfC pf0 none 0 none 0).toArray by kernel_rfl)
  have hS := fun A W (hA : Rd W A [97]) hTW => ClSeek_any (fun _ => False) (fun _ => False) pf0 ownP none A 0 1 none none 0 0 W (fun h => absurd h (by decide)) (Nat.le_refl _) (Nat.zero_le _) (Row.nil _ _ _) hA (Nat.le_refl _) (show 1 ≤ maxLen by decide) (Row.nil _ _ _) hTW
  rw [seek_own, seek_ownE] at hS
  have hO := fun W A hW => TBytes_any 1 A 2 2 [z0.1, [97]] W hW rfl (by simp) (by decide +kernel)
  have hsl := run_all32P
  have hs8 := slotU8
  have hlow := hid hT.low
  have l32 : z0.1.length = 32 := z0.2
  have hz32 : z32 = (z0.1.map bv).toArray := by rfl
  generalize tagB 1 [z0.1, [97]] = tb at *
  dsimp only at hS
  replace hS := hid hS
  replace hO := hid hO
  clear hs8
  obtain ⟨f0, hf0⟩ : ∃ f, pfC ownP = f := ⟨_, rfl⟩
  have hOwn := own_any
  rw [hf0] at hS hOwn
  clear hf0
  generalize (pfC pf0 none 0 none 0).toArray = cs at *
  go_enter Tryd.func10, Tryd.ntmps10
  go_wp2_with (first
    | ((with_reducible refine wpList_built rfl 30 _ rfl cs [] ?_ ?_ ?_); exact hb0.out; rfl))
  refine (hOwn _).mono ?_
  rintro e w1 ⟨A1, rfl, r1, hb⟩
  have T1 := hid (hT.bel hb hlow.out)
  have W1 := hid hb
  replace r1 := hid r1
  clear hb
  go_wp2_with fail
  refine (hS.out _ _ r1.out T1.out).mono ?_
  rintro e w2 ⟨A5, c5, A6, c6, rfl, t5, t6, hb⟩
  have T2 := hid (T1.out.bel hb (Nat.lt_of_lt_of_le hlow.out W1.out.size))
  have W2 := hid (W1.out.trans (hb.mono W1.out.size))
  replace t5 := hid t5
  replace t6 := hid t6
  clear hb T1 W1 r1
  have z3 := heap_alloc_new w2 (.cells z32 27)
  have B3 := ext_alloc w2 (.cells z32 27)
  go_wp2_with (first
    | (with_reducible refine wpList_alloc_row rfl 27 rfl z32 info32 ?_))
  rw [hz32] at z3 B3
  have C4 := ext_alloc (w2.alloc (.cells (z0.1.map bv).toArray 27)) (.cells #[.int .u8 0] 5)
  have B4 := hid (B3.trans (C4.mono B3.size))
  have r0 := Rd.lit_ (w2.alloc (.cells (z0.1.map bv).toArray 27)) 5 [0] #[.int .u8 0] (w2.heap.size + 1) (World.size_alloc _ _) rfl
  refine (RSame01_is A5 _ c5 1 [0] [0] true _ (t5.out.1.bel B4.out) r0 (by decide)).mono ?_
  rintro e w3 ⟨rfl, rfl⟩
  have z4 := hid ((C4.block _ (block_lt z3)).trans z3)
  have T4 := hid (T2.out.bel B4.out (Nat.lt_of_lt_of_le hlow.out W2.out.size))
  have W4 := hid (W2.out.trans (B4.out.mono W2.out.size))
  have t64 := hid (t6.out.bel B4.out)
  clear z3 B3 C4 B4 r0 T2 W2 t5 t6 hz32
  generalize (w2.alloc (.cells (z0.1.map bv).toArray 27)).alloc (.cells #[.int .u8 0] 5) = w4 at *
  have kc := conv_lit w4
  have B5 := ext_alloc w4 (.cells #[.int .u8 97] 5 (1, 2))
  have r5 := Rd.litf w4 5 [97] #[.int .u8 97] w4.heap.size (1, 2) rfl rfl
  have hR := rds_two (w4.alloc (.cells #[.int .u8 97] 5 (1, 2))) (some ⟨w2.heap.size, 0, none⟩) (some ⟨w4.heap.size, 0, none⟩) 32 1 z0.1 [97] 22 (rd_blockP ((B5.block _ (block_lt z4.out)).trans z4.out)) r5 (by rw [l32]; decide) (by decide)
  rw [l32, World.size_alloc] at hR
  have B6 := hid (B5.trans ((ext_alloc _ (.cells #[.slice (some ⟨w2.heap.size, 0, none⟩) 32 32, .slice (some ⟨w4.heap.size, 0, none⟩) 1 1] 22)).mono B5.size))
  replace hR := hid hR
  clear r5 B5
  go_wp2_with fail
  refine (hO.out _ _ hR.out).mono ?_
  rintro e w7 ⟨A7, c7, rfl, f7, hb⟩
  have B7 := hid (B6.out.trans (hb.mono B6.out.size))
  clear hb hR B6 hO
  go_wp2_with fail
  refine (RSame01_is A6 A7 c6 c7 tb tb true _ (t64.out.1.bel B7.out) f7.rd (decide_eq_true rfl)).mono ?_
  rintro e w8 ⟨rfl, rfl⟩
  go_wp2
  go_ret
  exact ⟨rfl, W4.out.trans (B7.out.mono W4.out.size)⟩
end Go.Proofs.YtapnhdpgogfceaaDoor
