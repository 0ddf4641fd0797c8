/-
  Contracts of the landed package tx over the table sha.k: Read.
-/
import Derived.Test.YtaegdiggmgifiaaDoorTxF
import Derived.Test.YtaegdiggmgifiaaDoorTxD
import Derived.Test.YtaegdiggmgifiaaDoorRef11b
namespace Go.Proofs.YtaegdiggmgifiaaDoor
open Go.RowKit
set_option linter.unusedVariables false
set_option linter.unusedSimpArgs false
set_option maxRecDepth 100000

theorem built_rdr (A : Option Addr) (n c : Nat) : Tryd.prog.built 47 [(0, .slice A n c)] = some #[.slice A n c, .int .i64 0] := by kernel_rfl
theorem built_txr (A : Option Addr) (n c : Nat) : Tryd.prog.built 49 [(0, .agg #[.slice A n c, .int .i64 0])] = some #[.slice A n c, .int .i64 0] := by kernel_rfl
theorem zInfoTxr : (Tryd.prog.info? 49).map (fun i => (i.zero, i.size)) = some (some (.agg #[.slice none 0 0, .int .i64 0]), (#[Value.slice none 0 0, .int .i64 0] : Array Value).size) := by kernel_rfl
theorem sizeTxr (A : Option Addr) (n c : Nat) : (Tryd.prog.info? 49).map (·.size) = some (#[Value.slice A n c, .int .i64 0] : Array Value).size := by kernel_rfl
theorem read_cases {l lr : List UInt8} {x : Tx} {br : Bool} {ee : Int} (h : RdSpec l false x lr br) (he : (if br = true then 10 else endE lr) = ee) :
    (ee ≠ 0 → readXE l = ee ∧ readX l = zX) ∧ (ee = 0 → l.length = 120 ∧ x = takenX l) := by
  obtain ⟨-, h2, h3⟩ := h
  have hz : readXE l ≠ 0 → readX l = zX := fun q => by unfold readX; rw [if_neg q]
  rcases Nat.lt_or_ge l.length 120 with hl | hl
  · have e1 : br = true := h3 hl
    have e2 : readXE l = 10 := by unfold readXE; rw [if_pos hl]
    rw [e1, if_pos rfl] at he
    subst he
    exact ⟨fun _ => ⟨e2, hz (by rw [e2]; decide)⟩, fun q => absurd q (by decide)⟩
  · obtain ⟨k1, k2, k3⟩ := h2 rfl hl
    rw [k3, if_neg (by decide), k2] at he
    unfold endE at he
    rw [List.length_drop] at he
    rcases Nat.eq_or_lt_of_le hl with hq | hq
    · rw [if_pos (by omega)] at he
      subst he
      exact ⟨fun q => absurd rfl q, fun _ => ⟨hq.symm, k1⟩⟩
    · rw [if_neg (by omega)] at he
      subst he
      have e2 : readXE l = 11 := by unfold readXE; rw [if_neg (by omega), if_pos hq]
      exact ⟨fun _ => ⟨e2, hz (by rw [e2]; decide)⟩, fun q => absurd q (by decide)⟩
theorem check_b {x : Tx} {b : Bool} (h : decide (x = signX x) = b) : checkX x = if b = true then 0 else 110 := by
  unfold checkX
  have e : x = signX x ↔ x.s = signD x := ⟨fun q => congrArg (·.s) q, fun q => by cases x; simp only [signX] at q ⊢; rw [← q]⟩
  by_cases hq : x.s = signD x
  · rw [if_pos hq, ← h, decide_eq_true (e.2 hq), if_pos rfl]
  · rw [if_neg hq, ← h, decide_eq_false (fun k => hq (e.1 k)), if_neg (by decide)]
theorem read_good {l : List UInt8} {x : Tx} {b : Bool} (hl : l.length = 120) (hx : x = takenX l) (h : decide (x = signX x) = b) : readXE l = (if b = true then 0 else 110) ∧ readX l = if b = true then x else zX := by
  have e : readXE l = if b = true then 0 else 110 := by
    unfold readXE
    rw [if_neg (by omega), if_neg (by omega), ← hx, check_b h]
  refine ⟨e, ?_⟩
  unfold readX
  rw [e, ← hx]
  cases b <;> rfl
theorem rd_rowF {w : World} {A : Option Addr} {l : List UInt8} (h : Rd w A l) : Row (fun b => b < w.heap.size) w A l :=
  h.row fun a ha hn => by
    obtain ⟨b, o, rfl, hc⟩ := h hn
    injection ha with ha
    subst ha
    exact World.block_lt_of_cell? _ _ (hc 0 _ (List.getElem?_eq_getElem hn))
set_option maxHeartbeats 4000000 in
theorem PTxRead_any (A : Option Addr) (c : Nat) (l : List UInt8) (w : World) (hr : Rd w A l) (hc : l.length ≤ c) (hm : c ≤ maxLen) (hT : Tab w) :
    Calls Tryd.prog 8 #[.slice A l.length c] w fun e w' => e = .returned (.tuple #[.agg (txC (readX l)).toArray, .int .i64 (readXE l)]) ∧ Below w.heap.size w w' := by
  have hux := Tryd.underlying26
  have h0 := heap_alloc_new w (.cells zTxC 26)
  have b0 := hid (ext_alloc w (.cells zTxC 26))
  have h1 := heap_alloc_new (w.alloc (.cells zTxC 26)) (.cells #[.slice A l.length c, .int .i64 0] 49)
  have b1 := ext_alloc (w.alloc (.cells zTxC 26)) (.cells #[.slice A l.length c, .int .i64 0] 49)
  rw [World.size_alloc] at h1
  have W1 := hid (b0.out.trans (b1.mono b0.out.size))
  have h0' := hid ((b1.block _ (block_lt h0)).trans h0)
  have D0 : Hid (RdrAt (w.heap.size + 1 + 1) ((w.alloc (.cells zTxC 26)).alloc (.cells #[.slice A l.length c, .int .i64 0] 49)) (w.heap.size + 1) l false) :=
    hid ⟨by rw [World.size_alloc, World.size_alloc]; exact Nat.le_refl _, Nat.lt_succ_self _, A, c, h1, hc, hm, ((rd_rowF hr).bel W1.out).mono fun b hb _ => ⟨by omega, by omega⟩⟩
  have C0 := hid (PTxRdTx_any (w.heap.size + 1 + 1) (w.heap.size + 1) l false _ D0.out)
  have B1 := hid (built_rdr A l.length c)
  have B2 := hid (built_txr A l.length c)
  have hlow := hid hT.low
  replace hT := hid hT
  clear hr h0 h1 b0 b1 D0
  go_enter Tryd.func8, Tryd.ntmps8
  go_wp2_with (first
    | (with_reducible refine wpList_alloc_row rfl 26 rfl zTxC zInfoTx ?_)
    | ((with_reducible refine wpList_built rfl 47 _ rfl #[.slice A l.length c, .int .i64 0] [(0, .slice A l.length c)] ?_ ?_ ?_); exact B1.out; rfl)
    | ((with_reducible refine wpList_built rfl 49 _ rfl #[.slice A l.length c, .int .i64 0] [(0, .agg #[.slice A l.length c, .int .i64 0])] ?_ ?_ ?_); exact B2.out; rfl))
  generalize (w.alloc (.cells zTxC 26)).alloc (.cells #[.slice A l.length c, .int .i64 0] 49) = w1 at *
  refine C0.out.mono ?_
  rintro e w2 ⟨x, lr, br, rfl, spec, D2, X2⟩
  obtain ⟨ee, hee⟩ : ∃ ee, (if br = true then 10 else endE lr) = ee := ⟨_, rfl⟩
  have hxo := spec.1
  have RC := hid (read_cases spec hee)
  have R2 := hid ((X2.block _ (block_lt h0'.out) (by omega)).trans h0'.out)
  have W2 : Hid (Below w.heap.size w w2) := hid (W1.out.trans (X2.below W1.out.size (fun b hb e => by omega)))
  have e2 := hid (heap_alloc_new w2 (.cells zTxC 26))
  have hEn := hid (fun W (h : Below w2.heap.size w2 W) => endsE_any (w.heap.size + 1 + 1) (w.heap.size + 1) lr br W (D2.bel (h.mono D2.1)))
  rw [hee] at hEn
  have jx := hid (sizeTx x)
  have jz := hid (sizeTxA x)
  have ez := hid (zSizeTx x)
  have oz := hid (one_tx x)
  clear hee spec D2 X2 C0 W1 h0'
  go_wp2_with (first
    | (with_reducible refine wpList_alloc_row rfl 26 rfl zTxC zInfoTx ?_)
    | ((with_reducible refine wpList_store_row rfl 26 (.tmp 5) (.tmp 11) rfl w2.heap.size _ rfl rfl 26 zTxC ?_ ?_ ?_ ?_ ?_); exact e2.out; exact jz.out; exact ez.out; exact oz.out; intro w3 hgS hbS hsS; have X3 := hid (xnewP rfl hbS); have q3 := hid (rangeOf (l := txC x) hgS); have R3 := hid ((X3.out.block _ (block_lt R2.out)).trans R2.out); have W3 := hid (W2.out.trans (X3.out.mono W2.out.size)); clear hgS hbS hsS))
  refine (hEn.out _ X3.out).mono ?_
  rintro e w4 ⟨rfl, rfl⟩
  clear hEn
  by_cases hz : ee = 0
  · obtain ⟨l120, hxt⟩ := RC.out.2 hz
    subst hz
    obtain ⟨b, hb⟩ : ∃ b, decide (x = signX x) = b := ⟨_, rfl⟩
    obtain ⟨E1, E2⟩ := read_good l120 hxt hb
    have hCk := hid (fun W hT => PTxCheck_any x hxo b hb W hT)
    replace E1 := hid E1
    replace E2 := hid E2
    have hT3 := hid (hT.out.bel W3.out hlow.out)
    clear RC hb hxt l120 hxo
    go_wp2_with (first
      | ((with_reducible refine wpList_load_rng rfl 26 (.tmp 5) rfl w2.heap.size 0 rfl (txC x) _ ?_ hux rfl jx.out ?_); exact q3.out))
    refine (hCk.out _ hT3.out).mono ?_
    rintro e w5 ⟨rfl, hb5⟩
    have R5 := hid ((hb5.block _ (block_lt R3.out)).trans R3.out)
    have q5 := hid (rangeBel2 hb5 q3.out)
    have W5 := hid (W3.out.trans (hb5.mono W3.out.size))
    clear hb5
    cases b
    · go_wp2_with (first
        | ((with_reducible refine wpList_built rfl 26 _ rfl zTxC [] ?_ ?_ ?_); exact built_tx0; rfl)
        | ((with_reducible refine wpList_store_row rfl 26 (.tmp 2) (.tmp 22) rfl w.heap.size _ rfl rfl 26 zTxC ?_ ?_ ?_ ?_ ?_); exact R5.out; exact sizeTxA zX; rfl; exact one_tx zX; intro w6 hg6 hb6 hs6))
      rw [E1.out, E2.out]
      exact bodyPost_ret (res_tx rfl _ _ w.heap.size zX rfl hg6) rfl ⟨rfl, W5.out.grown hb6 W5.out.size (fun g e => by injection e with e; omega)⟩
    · go_wp2_with (first
        | ((with_reducible refine wpList_load_rng rfl 26 (.tmp 5) rfl w2.heap.size 0 rfl (txC x) _ ?_ hux rfl jx.out ?_); exact q5.out)
        | ((with_reducible refine wpList_store_row rfl 26 (.tmp 2) (.tmp 24) rfl w.heap.size _ rfl rfl 26 zTxC ?_ ?_ ?_ ?_ ?_); exact R5.out; exact jz.out; exact ez.out; exact oz.out; intro w6 hg6 hb6 hs6))
      rw [E1.out, E2.out]
      exact bodyPost_ret (res_tx rfl _ _ w.heap.size x rfl hg6) rfl ⟨rfl, W5.out.grown hb6 W5.out.size (fun g e => by injection e with e; omega)⟩
  · obtain ⟨E1, E2⟩ := RC.out.1 hz
    have hzb : (ee != 0) = true := bne_iff_ne.2 hz
    replace E1 := hid E1
    replace E2 := hid E2
    clear RC hz hxo
    go_wp2_with (first
      | ((with_reducible refine wpList_built rfl 26 _ rfl zTxC [] ?_ ?_ ?_); exact built_tx0; rfl)
      | ((with_reducible refine wpList_store_row rfl 26 (.tmp 2) (.tmp 16) rfl w.heap.size _ rfl rfl 26 zTxC ?_ ?_ ?_ ?_ ?_); exact R3.out; exact sizeTxA zX; rfl; exact one_tx zX; intro w6 hg6 hb6 hs6))
    rw [E1.out, E2.out]
    exact bodyPost_ret (res_tx rfl _ _ w.heap.size zX rfl hg6) rfl ⟨rfl, W3.out.grown hb6 W3.out.size (fun g e => by injection e with e; omega)⟩
end Go.Proofs.YtaegdiggmgifiaaDoor
