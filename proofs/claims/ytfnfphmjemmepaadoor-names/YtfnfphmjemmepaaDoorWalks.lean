import Derived.Test.YtfnfphmjemmepaaDoorRows
import Derived.Handy
import Derived.BigQuiet
import Derived.Deep.QuietTactic
import Derived.LaidEql
import Derived.Stop.LaidErr
namespace Go.Proofs.YtfnfphmjemmepaaDoor
open Go Go.RowKit

theorem Tryd.isComp : (Tryd.prog.info? 31).map (·.comparable) = some true := by kernel_rfl
theorem Tryd.isSize : (Tryd.prog.info? 49).map (·.size) = some 1 := by kernel_rfl

theorem eql_other {W : World} {x a : Addr} (h : x ≠ a) (hx : ∃ c t, W.heap[x.block]? = some (.cells c t (0, 0))) (ha : ∃ c t, W.heap[a.block]? = some (.cells c t (0, 0))) :
    (binOp .eql 23 (.iface 31 (.pointer (some x))) (.iface 31 (.pointer (some a)))).run Tryd.prog W = .ok (.bool false) W := by
  obtain ⟨i, hi, hcmp⟩ := Option.map_eq_some_iff.1 Tryd.isComp
  obtain ⟨j, hj, hjs⟩ := Option.map_eq_some_iff.1 Tryd.isSize
  obtain ⟨_, _, hx⟩ := hx
  obtain ⟨_, _, ha⟩ := ha
  exact run_eql_iface_ptr_other (P := Tryd.prog) W Tryd.underlying23 Tryd.underlying31 hi hcmp hj (by rw [hjs]; decide) h hx ha

theorem eql_same (W : World) (x : Addr) :
    (binOp .eql 23 (.iface 31 (.pointer (some x))) (.iface 31 (.pointer (some x)))).run Tryd.prog W = .ok (.bool true) W := by
  obtain ⟨i, hi, hcmp⟩ := Option.map_eq_some_iff.1 Tryd.isComp
  obtain ⟨j, hj, _⟩ := Option.map_eq_some_iff.1 Tryd.isSize
  exact run_eql_iface_ptr_same (P := Tryd.prog) W x Tryd.underlying23 Tryd.underlying31 hi hcmp hj

theorem below_of_cell {W : World} {b o : Nat} {v : Value} (h : W.cell? ⟨b, o, none⟩ = some v) : b < W.heap.size := by
  rcases Nat.lt_or_ge b W.heap.size with h' | h'
  · exact h'
  · simp [World.cell?, Array.getElem?_eq_none h'] at h

theorem below_drewN {B : Nat} {a w : World} (h : Below B a w) (n : Nat) : Below B a (w.drewN n) := ⟨h.os, h.tape, h.output, h.size, h.block⟩

theorem row_later {W : World} {o : Obj} {x : Addr} (h : ∃ c t, W.heap[x.block]? = some (.cells c t (0, 0))) : ∃ c t, (W.alloc o).heap[x.block]? = some (.cells c t (0, 0)) := by
  obtain ⟨c, t, h⟩ := h
  have hlt : x.block < W.heap.size := by
    rcases Nat.lt_or_ge x.block W.heap.size with h' | h'
    · exact h'
    · simp [Array.getElem?_eq_none h'] at h
  refine ⟨c, t, ?_⟩
  simp only [World.alloc, Array.getElem?_push, Nat.ne_of_lt hlt, if_false]
  exact h

abbrev five (a b c d : Addr) : Obj := .cells #[.nilIface, .iface 31 (.pointer (some a)), .iface 31 (.pointer (some b)), .iface 31 (.pointer (some c)), .iface 31 (.pointer (some d))] 23

set_option maxHeartbeats 400000 in
theorem names_walk {W : World} (a b c d : Addr)
   (h0 : W.cell? ⟨0, 0, none⟩ = some (.iface 31 (.pointer (some a)))) (h1 : W.cell? ⟨1, 0, none⟩ = some (.iface 31 (.pointer (some b))))
   (h2 : W.cell? ⟨2, 0, none⟩ = some (.iface 31 (.pointer (some c)))) (h3 : W.cell? ⟨3, 0, none⟩ = some (.iface 31 (.pointer (some d))))
   (ra : ∃ cs t, W.heap[a.block]? = some (.cells cs t (0, 0))) (rb : ∃ cs t, W.heap[b.block]? = some (.cells cs t (0, 0))) (rc : ∃ cs t, W.heap[c.block]? = some (.cells cs t (0, 0))) (rd : ∃ cs t, W.heap[d.block]? = some (.cells cs t (0, 0)))
   (hba : b ≠ a) (hca : c ≠ a) (hcb : c ≠ b) (hda : d ≠ a) (hdb : d ≠ b) (hdc : d ≠ c) :
   Calls Tryd.prog 3 #[] W fun e w' => e = .returned (.bool true) ∧ Below W.heap.size W w' := by
  have hz := below_of_cell h3
  go_enter Tryd.func3, Tryd.ntmps3
  go_wp2
  go_loopw [3] (fun v3 wr => ∃ k n : Nat, k ≤ 5 ∧ v3 = .int .i64 k ∧ wr = (W.alloc (five a b c d)).drewN n) (fun v3 _ => 5 - (intOf v3).toNat)
  case atStart => exact ⟨0, 0, by omega, rfl, rfl⟩
  case round =>
    obtain ⟨k, n, hk, rfl, rfl⟩ := hrel
    by_cases hlt : k < 5
    · go_wp2
      go_loopw [4] (fun v4 wr => ∃ j n : Nat, j ≤ k ∧ v4 = .int .i64 j ∧ wr = (W.alloc (five a b c d)).drewN n) (fun v4 _ => k - (intOf v4).toNat)
      case atStart => exact ⟨0, n, by omega, rfl, rfl⟩
      case round =>
        obtain ⟨j, n, hj, rfl, rfl⟩ := hrel
        by_cases hjk : j < k
        · have e1 : ∀ m, (binOp .eql 23 (.iface 31 (.pointer (some b))) (.iface 31 (.pointer (some a)))).run Tryd.prog ((W.alloc (five a b c d)).drewN m) = .ok (.bool false) _ := fun m => eql_other hba (row_later rb) (row_later ra)
          have e2 : ∀ m, (binOp .eql 23 (.iface 31 (.pointer (some c))) (.iface 31 (.pointer (some a)))).run Tryd.prog ((W.alloc (five a b c d)).drewN m) = .ok (.bool false) _ := fun m => eql_other hca (row_later rc) (row_later ra)
          have e3 : ∀ m, (binOp .eql 23 (.iface 31 (.pointer (some c))) (.iface 31 (.pointer (some b)))).run Tryd.prog ((W.alloc (five a b c d)).drewN m) = .ok (.bool false) _ := fun m => eql_other hcb (row_later rc) (row_later rb)
          have e4 : ∀ m, (binOp .eql 23 (.iface 31 (.pointer (some d))) (.iface 31 (.pointer (some a)))).run Tryd.prog ((W.alloc (five a b c d)).drewN m) = .ok (.bool false) _ := fun m => eql_other hda (row_later rd) (row_later ra)
          have e5 : ∀ m, (binOp .eql 23 (.iface 31 (.pointer (some d))) (.iface 31 (.pointer (some b)))).run Tryd.prog ((W.alloc (five a b c d)).drewN m) = .ok (.bool false) _ := fun m => eql_other hdb (row_later rd) (row_later rb)
          have e6 : ∀ m, (binOp .eql 23 (.iface 31 (.pointer (some d))) (.iface 31 (.pointer (some c)))).run Tryd.prog ((W.alloc (five a b c d)).drewN m) = .ok (.bool false) _ := fun m => eql_other hdc (row_later rd) (row_later rc)
          clear ra rb rc rd hba hca hcb hda hdb hdc
          go_wp2
          have hcases : (k = 1 ∧ j = 0) ∨ (k = 2 ∧ j = 0) ∨ (k = 2 ∧ j = 1) ∨ (k = 3 ∧ j = 0) ∨ (k = 3 ∧ j = 1) ∨ (k = 3 ∧ j = 2) ∨ (k = 4 ∧ j = 0) ∨ (k = 4 ∧ j = 1) ∨ (k = 4 ∧ j = 2) ∨ (k = 4 ∧ j = 3) := by omega
          obtain ⟨J, hJ⟩ : ∃ J : Nat, J = j + 1 := ⟨_, rfl⟩
          rcases hcases with ⟨rfl, rfl⟩ | ⟨rfl, rfl⟩ | ⟨rfl, rfl⟩ | ⟨rfl, rfl⟩ | ⟨rfl, rfl⟩ | ⟨rfl, rfl⟩ | ⟨rfl, rfl⟩ | ⟨rfl, rfl⟩ | ⟨rfl, rfl⟩ | ⟨rfl, rfl⟩
          all_goals
            go_quiet (fail)
            go_wp2
            go_roundw
            case rel => exact ⟨J, n + nq, by omega, by subst hJ; go_num, rfl⟩
            case measure => simp [intOf]
        · go_wp2
          go_roundw
          case rel => exact ⟨k + 1, n, by omega, by go_num, rfl⟩
          case measure => simp [intOf]; omega
    · have hc2 : ((W.alloc (five a b c d)).drewN n).cell? ⟨3, 0, none⟩ = some (.iface 31 (.pointer (some d))) := by
        simpa using cell?_alloc_old (five a b c d) h3
      have hbw : Below W.heap.size W ((W.alloc (five a b c d)).drewN n) := below_drewN ((Below.refl _ _).alloc (Nat.le_refl _) _) n
      have hsz : W.heap.size ≤ ((W.alloc (five a b c d)).drewN n).heap.size := hbw.size
      generalize (W.alloc (five a b c d)).drewN n = W2 at *
      have hz2 := below_of_cell hc2
      have hs1 : ∀ w : World, (binOp .eql 23 (.iface 31 (.pointer (some d))) (.iface 31 (.pointer (some d)))).run Tryd.prog w = .ok (.bool true) w := fun w => eql_same w d
      have k3 : ∀ o p q : Obj, (((W2.alloc o).alloc p).alloc q).cell? ⟨3, 0, none⟩ = some (.iface 31 (.pointer (some d))) := fun o p q => cell?_alloc_old q (cell?_alloc_old p (cell?_alloc_old o hc2))
      have k4 : ∀ o p q r : Obj, ((((W2.alloc o).alloc p).alloc q).alloc r).cell? ⟨3, 0, none⟩ = some (.iface 31 (.pointer (some d))) := fun o p q r => cell?_alloc_old r (k3 o p q)
      have k5 : ∀ o p q r s : Obj, (((((W2.alloc o).alloc p).alloc q).alloc r).alloc s).cell? ⟨3, 0, none⟩ = some (.iface 31 (.pointer (some d))) := fun o p q r s => cell?_alloc_old s (k4 o p q r)
      have ta : ∀ w : World, Sem.run Tryd.prog (Instr.typeAssert (.iface 26 (.agg #[.int .i64 2, .int .i64 3])) 23 26 true) w = .ok (.tuple #[.agg #[.int .i64 2, .int .i64 3], .bool true]) w := fun w => by kernel_rfl
      have eb : ∀ w : World, (binOp .eql 26 (.agg #[.int .i64 2, .int .i64 3]) (.agg #[.int .i64 2, .int .i64 3])).run Tryd.prog w = .ok (.bool true) w := fun w => by kernel_rfl
      go_wp2
      go_ret
      refine ⟨rfl, hbw.trans ?_⟩
      go_grown
end Go.Proofs.YtfnfphmjemmepaaDoor
