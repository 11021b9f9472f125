/- The document's nonce: its walk. The program's laying of a word as four bytes: its walk. -/
import Derived.Test.YtajdpbbbocnfiaaDoorBx07
import Derived.Test.YtajdpbbbocnfiaaDoorBx11
namespace Go.Proofs.YtajdpbbbocnfiaaDoor
namespace Sha
open Go.RowKit Mem
def Z12 : Array Value := (u8s (List.replicate 12 0)).toArray
theorem zero12 (w : World) : (zeroValue 119).run Tryd.prog w = .ok (.agg Z12) w := by kernel_rfl
theorem info12 : (Tryd.prog.info? 119).map (·.size) = some 12 := by kernel_rfl
theorem cnonce_low (e : BitVec 32) (b : BitVec 64) (j : Nat) (h : j < 4) : (cnonce e b).getD j 0 = wb e (8 * j) := by
  simp [cnonce, List.getD_eq_getElem?_getD, List.getElem?_append, h]
theorem cnonce_high (e : BitVec 32) (b : BitVec 64) (j : Nat) (h : j < 8) : (cnonce e b).getD (4 + j) 0 = wb64 b (8 * j) := by
  have h4 : ¬ 4 + j < 4 := by omega
  simp [cnonce, List.getD_eq_getElem?_getD, List.getElem?_append, h, h4]
theorem wb_pow' (x : BitVec 32) (k : Nat) : V x / 2 ^ k % 256 = ((wb x k).toNat : Int) := wb_val x k _ (by simp)
def ncOf (e : BitVec 32) (b : BitVec 64) : Array Value := (u8s (cnonce e b)).toArray
end Sha
end Go.Proofs.YtajdpbbbocnfiaaDoor
namespace Go.Proofs.YtajdpbbbocnfiaaDoor
namespace Sha
open Go.RowKit Mem
/-- The first j bytes of a word laid from place o on. -/
def put4 (l : List (BitVec 8)) (o : Nat) (x : BitVec 32) : Nat → List (BitVec 8)
  | 0 => l
  | j + 1 => (put4 l o x j).set (o + j) (wb x (8 * j))
theorem put4_length (l : List (BitVec 8)) (o : Nat) (x : BitVec 32) : ∀ j, (put4 l o x j).length = l.length
  | 0 => rfl
  | j + 1 => by rw [put4, List.length_set, put4_length l o x j]
/-- Four bytes more of a row that is filled from the left. -/
theorem put4_row (L : List (BitVec 8)) (n i : Nat) (x : BitVec 32) (hl : L.length = n) (h : i + 4 ≤ n) (hx : ∀ j, j < 4 → L.getD (i + j) 0 = wb x (8 * j)) : ∀ j, j ≤ 4 → put4 (rowZ L n i) i x j = rowZ L n (i + j)
  | 0, _ => rfl
  | j + 1, hj => by rw [put4, put4_row L n i x hl h hx j (by omega), ← hx j (by omega), rowZ_set L n (i + j) hl (by omega)]; rfl
structure CPInv (C : Array Value) (b : Nat) (t : TypeId) (w wr : World) : Prop where
  a : At wr b C t
  o : But b w wr
  k : ∀ B x, Below B x w → B ≤ b → Below B x wr
set_option maxRecDepth 100000 in
set_option maxHeartbeats 1000000 in
theorem putWord_any (x : BitVec 32) (l : List (BitVec 8)) (b o n c : Nat) (t : TypeId) (w : World) (ha : At w b (u8s l).toArray t) (hn : 4 ≤ n) (ho : o + 4 ≤ l.length) :
    Calls Tryd.prog 80 #[.slice (some ⟨b, o, none⟩) n c, .int .u32 (V x)] w fun e w' => e = .returned (.tuple #[]) ∧ CPInv (u8s (put4 l o x 4)).toArray b t w w' := by
  have vx := V_lo x
  have hI : CPInv (u8s (put4 l o x 0)).toArray b t w w := ⟨ha, But.refl _ _, fun _ _ h _ => h⟩
  have HI := Lib.hid hI; have HO := Lib.hid ho
  clear ha hI ho
  go_enter Tryd.func80, Tryd.ntmps80
  go_wp2_with fail
  go_loopw [4, 5] (fun _ i wr => ∃ j : Nat, j ≤ 4 ∧ i = .int .i64 j ∧ CPInv (u8s (put4 l o x j)).toArray b t w wr) (fun _ i _ => 4 - (intOf i).toNat)
  case atStart => exact ⟨0, by omega, rfl, HI.out⟩
  case round =>
    clear HI
    obtain ⟨j, hj, rfl, hI⟩ := hrel
    by_cases hlt : j < 4
    · have hset : (u8s (put4 l o x j)).toArray.setIfInBounds (o + j) (.int .u8 ((wb x (8 * j)).toNat : Int)) = (u8s (put4 l o x (j + 1))).toArray := u8s_set _ _ _
      have hEs : o + j < (u8s (put4 l o x j)).toArray.size := by have := HO.out; simp [u8s, put4_length]; omega
      have hk := hI.a; have hO := hI.o; have hK := hI.k
      obtain ⟨E, hE⟩ : ∃ E, E = (u8s (put4 l o x j)).toArray := ⟨_, rfl⟩
      rw [← hE] at hk hset hEs
      have KK := Lib.hid hk; have ST := Lib.hid hset; have ES := Lib.hid hEs; have OO := Lib.hid hO; have BB := Lib.hid hK
      have hlt' : (j : Int) < 4 := by omega
      have hjn : (j : Int) < (n : Int) := by omega
      clear hk hset hEs hI hE hO hK
      go_wp2_with (refine Mem.wpList_store_one (by rfl) 5 _ _ (by rfl) (by rfl) b (o + j) (.int .u8 ((wb x (8 * j)).toNat : Int)) (by rfl) (by exact congrArg (Value.int .u8) (wb_pow' x _)) (by rfl) infoB _ _ KK.out ES.out ?_; intro w' hat' ho' hb'; have KK' := Lib.hid hat'; have OO' := Lib.hid (OO.out.row (hb' b _ (Below.refl _ _) (Nat.le_refl _)).size ho'); have BB' := Lib.hid (fun B y (h : Below B y w) (hB : B ≤ b) => hb' B y (BB.out B y h hB) hB); clear hat' ho' hb')
      go_roundw
      case rel => exact ⟨j + 1, by omega, by go_num, by rw [← ST.out]; exact KK'.out, OO'.out, BB'.out⟩
      case measure => simp [intOf]; omega
    · have hj4 : j = 4 := by omega
      have hge : ¬ (j : Int) < 4 := by omega
      rw [hj4] at hI
      have II := Lib.hid hI
      clear hI hj4 hlt hj
      go_wp2_with fail
      go_end0
      exact ⟨rfl, II.out⟩
end Sha
end Go.Proofs.YtajdpbbbocnfiaaDoor
