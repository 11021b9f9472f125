/- Anchors: mathematics. -/
import Derived.Test.YtknaimpnkflfnaaSl
import Derived.Test.YtknaimpnkflfnaaPackMath
namespace Go.Proofs.Ytknaimpnkflfnaa
namespace Sha
open Go.RowKit Mem
/-- An anchor, its two digests as lists. -/
structure Anc where
  ver : Int
  pages : Int
  epoch : Nat
  hp : Int
  head : List (BitVec 8)
  rp : Int
  re : Nat
  root : List (BitVec 8)
  com : Nat
/-- Each of its fields is one of its kind. -/
structure Anc.Wf (a : Anc) : Prop where
  ver0 : -9223372036854775808 ≤ a.ver
  ver1 : a.ver ≤ 9223372036854775807
  pages0 : -9223372036854775808 ≤ a.pages
  pages1 : a.pages ≤ 9223372036854775807
  epoch : a.epoch < 4294967296
  hp0 : -9223372036854775808 ≤ a.hp
  hp1 : a.hp ≤ 9223372036854775807
  head : a.head.length = 32
  rp0 : -9223372036854775808 ≤ a.rp
  rp1 : a.rp ≤ 9223372036854775807
  re : a.re < 4294967296
  root : a.root.length = 32
  com : a.com < 18446744073709551616
/-- Its cells. -/
def ancL (a : Anc) : List Value := [.int .i64 a.ver, .int .i64 a.pages, .int .u32 (a.epoch : Int), .int .i64 a.hp] ++ (u8s a.head ++ ([.int .i64 a.rp, .int .u32 (a.re : Int)] ++ (u8s a.root ++ [.int .u64 (a.com : Int)])))
def ancC (a : Anc) : Array Value := (ancL a).toArray
theorem ancC_size {a : Anc} (h : a.Wf) : (ancC a).size = 71 := by simp [ancC, ancL, u8s_length, h.head, h.root]
theorem ancC_one (a : Anc) : (ancC a).all (·.oneCell') = true := by
  rw [Array.all_eq_true]
  intro i hi
  have hm : (ancC a)[i] ∈ ancL a := by
    have h : (ancC a)[i] ∈ ancC a := Array.getElem_mem hi
    exact Array.mem_toList_iff.2 h
  generalize (ancC a)[i] = u at hm
  simp only [ancL, List.mem_append, List.mem_cons, List.not_mem_nil, or_false] at hm
  rcases hm with (rfl | rfl | rfl | rfl) | hm | (rfl | rfl) | hm | rfl
  all_goals first | rfl | exact u8s_cells _ _ hm
theorem anc0 (a : Anc) : (ancC a)[0]? = some (.int .i64 a.ver) := by simp [ancC, ancL]
theorem anc1 (a : Anc) : (ancC a)[1]? = some (.int .i64 a.pages) := by simp [ancC, ancL]
theorem anc2 (a : Anc) : (ancC a)[2]? = some (.int .u32 (a.epoch : Int)) := by simp [ancC, ancL]
theorem anc3 (a : Anc) : (ancC a)[3]? = some (.int .i64 a.hp) := by simp [ancC, ancL]
section
variable {a : Anc} (h : a.Wf)
include h
theorem anc_head (i : Nat) (hi : i < 32) : (ancC a)[4 + i]? = some (.int .u8 ((a.head.getD i 0).toNat : Int)) := by
  have e := u8s_get a.head i (by rw [h.head]; exact hi)
  rw [← e]
  simp only [ancC, ancL, List.getElem?_toArray]
  rw [List.getElem?_append_right (by simp), List.getElem?_append_left (by simp [u8s_length, h.head]; omega)]
  simp
theorem anc36 : (ancC a)[36]? = some (.int .i64 a.rp) := by
  simp only [ancC, ancL, List.getElem?_toArray]
  rw [List.getElem?_append_right (by simp), List.getElem?_append_right (by simp [u8s_length, h.head])]
  simp [u8s_length, h.head]
theorem anc37 : (ancC a)[37]? = some (.int .u32 (a.re : Int)) := by
  simp only [ancC, ancL, List.getElem?_toArray]
  rw [List.getElem?_append_right (by simp), List.getElem?_append_right (by simp [u8s_length, h.head])]
  simp [u8s_length, h.head]
theorem anc_root (i : Nat) (hi : i < 32) : (ancC a)[38 + i]? = some (.int .u8 ((a.root.getD i 0).toNat : Int)) := by
  have e := u8s_get a.root i (by rw [h.root]; exact hi)
  rw [← e]
  simp only [ancC, ancL, List.getElem?_toArray]
  rw [List.getElem?_append_right (by simp; omega), List.getElem?_append_right (by simp [u8s_length, h.head]; omega), List.getElem?_append_right (by simp [u8s_length, h.head]; omega), List.getElem?_append_left (by simp [u8s_length, h.head, h.root]; omega)]
  congr 1
  simp [u8s_length, h.head]
  omega
theorem anc70 : (ancC a)[70]? = some (.int .u64 (a.com : Int)) := by
  simp only [ancC, ancL, List.getElem?_toArray]
  rw [List.getElem?_append_right (by simp), List.getElem?_append_right (by simp [u8s_length, h.head]), List.getElem?_append_right (by simp [u8s_length, h.head]), List.getElem?_append_right (by simp [u8s_length, h.head, h.root])]
  simp [u8s_length, h.head, h.root]
end
/-- Whether it is one. -/
def mayA (a : Anc) : Bool := decide (1 ≤ a.ver ∧ a.ver ≤ 2) && (decide (1 ≤ a.pages ∧ a.pages ≤ 216) && (decide (0 ≤ a.hp ∧ a.hp ≤ 1) && (decide (0 ≤ a.rp ∧ a.rp ≤ 1) && decide (a.re ≤ a.epoch))))
/-- Its bytes. -/
def layA (a : Anc) : List (BitVec 8) := [BitVec.ofNat 8 a.ver.toNat] ++ nbytes a.pages.toNat 2 ++ nbytes a.epoch 4 ++ [BitVec.ofNat 8 a.hp.toNat] ++ a.head ++ [BitVec.ofNat 8 a.rp.toNat] ++ nbytes a.re 4 ++ a.root ++ nbytes a.com 8 ++ List.replicate 43 0
theorem layA_length {a : Anc} (h : a.Wf) : (layA a).length = 128 := by simp [layA, nbytes_length, h.head, h.root]
/-- The anchor that some bytes tell, if they tell one. -/
def ancOf (b : List (BitVec 8)) : Anc :=
  ⟨(leN ((b.drop 0).take 1) : Int), (leN ((b.drop 1).take 2) : Int), leN ((b.drop 3).take 4), (leN ((b.drop 7).take 1) : Int), (b.drop 8).take 32, (leN ((b.drop 40).take 1) : Int), leN ((b.drop 41).take 4), (b.drop 45).take 32, leN ((b.drop 77).take 8)⟩
end Sha
end Go.Proofs.Ytknaimpnkflfnaa
