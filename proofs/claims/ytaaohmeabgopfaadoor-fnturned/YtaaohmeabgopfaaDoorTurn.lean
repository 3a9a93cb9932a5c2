/-
  The walk of the law FnTurned.
-/
import Derived.Test.YtaaohmeabgopfaaDoorPlaces
import Derived.Deep.DeepCutAuto
namespace Go.Proofs.YtaaohmeabgopfaaDoor
open Go.RowKit

set_option maxHeartbeats 400000 in
theorem big_no (ao : Option Addr) (n cap : Nat) (w : World) (hn : n ≤ 1048576) :
    Calls Tryd.prog 8 #[.slice ao n cap] w fun e w' => e = .returned (.bool false) ∧ w = w' := by
  have hd : decide ((1048576 : Int) < (n : Int)) = false := by simp; omega
  go_enter Tryd.func8, Tryd.ntmps8
  go_wp2
  go_ret
  exact ⟨rfl, rfl⟩
set_option maxHeartbeats 400000 in
theorem big_yes (ao : Option Addr) (n cap : Nat) (w : World) (hn : (1048576 : Int) < (n : Int)) :
    Calls Tryd.prog 8 #[.slice ao n cap] w fun e w' => e = .returned (.bool true) ∧ w = w' := by
  have hd : decide ((1048576 : Int) < (n : Int)) = true := by simp; omega
  go_enter Tryd.func8, Tryd.ntmps8
  go_wp2
  go_ret
  exact ⟨rfl, rfl⟩

theorem data_size (s : ByteArray) : s.data.toList.length = s.size := by simp only [Array.length_toList]; rfl
theorem sealed_rt (s : ByteArray) (w : World) (hs : s.size ≤ 40) (ht : FT w) :
    Calls Tryd.prog 11 #[.string s] w fun e w' => ∃ t : ByteArray, e = .returned (.tuple #[.string t, .bool true]) ∧ Hid (t.data.toList = sealL s.data.toList) ∧ (t.size : Int) = (s.size : Int) + 4 ∧ Below w.heap.size w w' := by
  refine (Sealed_yes s w (by omega) ht).mono ?_
  rintro e w' ⟨rfl, hb⟩
  refine ⟨_, rfl, sealS_list s, ?_, hb⟩
  have := congrArg List.length (sealS_list s)
  rw [data_size] at this
  simp [sealL, four_len] at this
  omega
theorem unsealed_rt (s t : ByteArray) (w : World) (hs : s.size ≤ 40) (hts : t.size = s.size + 4) (h : t.data.toList = sealL s.data.toList) (ht : FT w) :
    Calls Tryd.prog 12 #[.string t] w fun e w' => e = .returned (.tuple #[.string s, .bool true]) ∧ Below w.heap.size w w' := by
  have hu : unRes t = .tuple #[.string s, .bool true] := by
    have hb := bears_seal s.data.toList
    unfold Bears at hb
    rw [← h, data_size] at hb
    unfold unRes
    rw [if_pos hb]
    have : t.extract 0 (t.size - 4) = s := by
      apply WideShapes.bytes_inj
      rw [ext0, h, show t.size - 4 = s.data.toList.length by rw [data_size]; omega]
      simp [sealL]
    rw [this]
  have := Unsealed_mid t s.size w (by omega) (by omega) ht
  rw [hu] at this
  exact this
theorem unsealed_bad (t : ByteArray) (w : World) (h4 : 4 ≤ t.size) (hs : t.size ≤ 20004) (h : ¬ Bears t.data.toList) (ht : FT w) :
    Calls Tryd.prog 12 #[.string t] w fun e w' => e = .returned (.tuple #[.string ⟨#[]⟩, .bool false]) ∧ Below w.heap.size w w' := by
  have hu : unRes t = .tuple #[.string ⟨#[]⟩, .bool false] := by
    unfold Bears at h
    rw [data_size] at h
    unfold unRes
    rw [if_neg h]
  have := Unsealed_mid t (t.size - 4) w (by omega) (by omega) ht
  rw [hu] at this
  exact this

/-- a text made to bytes: they lie in block g -/
structure BytesAt (w : World) (g : Nat) (l : List UInt8) : Prop where
  blk : ∃ cs, w.heap[g]? = some (.cells cs 5 (cs.size, cs.size + 1)) ∧ l.length ≤ cs.size ∧ ∀ j (hj : j < l.length), cs[j]? = some (bv l[j])
theorem BytesAt.cell {w : World} {g : Nat} {l : List UInt8} (h : BytesAt w g l) (j : Nat) (hj : j < l.length) : w.cell? ⟨g, j, none⟩ = some (.int .u8 (l[j].toNat : Int)) := by
  obtain ⟨cs, hb, hl, hc⟩ := h.blk
  rw [cell_of_row w g j cs 5 _ hb]
  exact hc j hj
theorem BytesAt.frozen {w : World} {g : Nat} {l : List UInt8} (h : BytesAt w g l) (j : Nat) (hj : j < l.length) : w.frozen? ⟨g, j, none⟩ = false := by
  obtain ⟨cs, hb, hl, hc⟩ := h.blk
  simp [World.frozen?, hb]
  omega
theorem BytesAt.lt {w : World} {g : Nat} {l : List UInt8} (h : BytesAt w g l) : g < w.heap.size := by
  obtain ⟨cs, hb, _⟩ := h.blk
  rcases Nat.lt_or_ge g w.heap.size with h1 | h1
  · exact h1
  · rw [Array.getElem?_eq_none h1] at hb; cases hb
theorem BytesAt.below {w w' : World} {g : Nat} {l : List UInt8} (h : BytesAt w g l) (hb : Below w.heap.size w w') : BytesAt w' g l := by
  obtain ⟨cs, hc, r⟩ := h.blk
  exact ⟨⟨cs, (hb.block g h.lt).trans hc, r⟩⟩
theorem BytesAt.put {w : World} {g : Nat} {l : List UInt8} (h : BytesAt w g l) (j : Nat) (c : UInt8) : BytesAt (w.setCell ⟨g, j, none⟩ (bv c)) g (l.set j c) := by
  obtain ⟨cs, hb, hl, hc⟩ := h.blk
  refine ⟨⟨cs.setIfInBounds j (bv c), ?_, by simpa using hl, fun k hk => ?_⟩⟩
  · simp only [World.setCell, Array.getElem?_modify, if_true, hb, Option.map_some]
    simp
  · have hk' : k < l.length := by simpa using hk
    rw [Array.getElem?_setIfInBounds]
    by_cases e : j = k
    · subst e
      rw [if_pos rfl, if_pos (by omega)]
      simp
    · rw [if_neg e, hc k hk']
      simp [e]
theorem BytesAt.text {w : World} {g cap : Nat} {l : List UInt8} (h : BytesAt w g l) : (convert 22 9 (.slice (some ⟨g, 0, none⟩) l.length cap)).run Tryd.prog w = .ok (.string ⟨l.toArray⟩) w := by
  refine run_convert_bytes_back w 22 9 5 ⟨g, 0, none⟩ cap l Tryd.underlying22 Tryd.underlying5 Tryd.underlying9 fun j hj => ?_
  have e : (⟨g, 0, none⟩ : Addr).add j = ⟨g, j, none⟩ := by unfold Addr.add; split <;> simp_all
  rw [e]
  exact h.cell j hj
theorem bytes_made (w : World) (t : ByteArray) : ∃ (C : Nat) (w2 : World), (convert 9 22 (.string t)).run Tryd.prog w = .ok (.slice (some ⟨w.heap.size, 0, none⟩) t.size C) w2 ∧ BytesAt w2 w.heap.size t.data.toList ∧ Below w.heap.size w w2 := by
  refine ⟨_, _, Lib.run_convert_string_bytes w 9 22 5 t Tryd.underlying9 Tryd.underlying22 Tryd.underlying5, ⟨⟨_, Lib.bytesWorld_at_new w 5 t, ?_, ?_⟩⟩, ?_⟩
  · rw [data_size]
    simp [Lib.bytesCells]
  · intro j hj
    have hj' : j < t.size := by rw [data_size] at hj; exact hj
    simp [Lib.bytesCells, Array.getElem?_append, hj', bv]
  · exact ⟨rfl, rfl, rfl, by rw [Lib.bytesWorld_size]; omega, fun k hk => Lib.bytesWorld_at_old w 5 t k hk⟩

theorem Places.two {B : Nat} {w : World} {v : Value} {l : List Int} (h : Places B w v l) : ∃ (g cap : Nat) (z0 z1 : Int), v = .slice (some ⟨g, 0, none⟩) 12 cap ∧ g < w.heap.size ∧
    w.cell? ⟨g, 0, none⟩ = some (.int .i64 z0) ∧ w.cell? ⟨g, 1, none⟩ = some (.int .i64 z1) ∧ 0 ≤ z0 ∧ z0 < 10000 ∧ 0 ≤ z1 ∧ z1 < 10000 := by
  obtain ⟨g, cap, rfl, _, _⟩ := h.own.form (by omega)
  have hl : l.length = 12 := by have := h.own.1; simpa using this
  have c0 := h.own.cellAt 0 (by omega)
  have c1 := h.own.cellAt 1 (by omega)
  have e0 : w.cell? ⟨g, 0, none⟩ = some (.int .i64 l[0]) := by rw [c0]; simp [iv, hl]
  have e1 : w.cell? ⟨g, 1, none⟩ = some (.int .i64 l[1]) := by rw [c1]; simp [iv, hl]
  refine ⟨g, cap, l[0], l[1], rfl, ?_, e0, e1, (h.all _ (List.getElem_mem _)).1, (h.all _ (List.getElem_mem _)).2, (h.all _ (List.getElem_mem _)).1, (h.all _ (List.getElem_mem _)).2⟩
  unfold World.cell? at e0
  rcases Nat.lt_or_ge g w.heap.size with h1 | h1
  · exact h1
  · simp [Array.getElem?_eq_none h1] at e0

theorem SumOf_let (s : ByteArray) (w : World) (hs : s.size ≤ 1000000) (ht : FT w) :
    Calls Tryd.prog 14 #[.string s] w fun e w' => ∃ x : Nat, e = .returned (.int .u32 (x : Int)) ∧ Hid (x = sumL s.data.toList) ∧ Hid (x < 4294967296) ∧ w = w' := by
  refine (SumOf_any s w (by omega) ht).mono ?_
  rintro e w' ⟨rfl, rfl⟩
  exact ⟨_, rfl, rfl, sumL_lt _, rfl⟩
theorem SumMore_let (S : Nat) (s : ByteArray) (w : World) (hS : S < 4294967296) (hs : s.size ≤ 1000000) (ht : FT w) :
    Calls Tryd.prog 13 #[.int .u32 (S : Int), .string s] w fun e w' => ∃ x : Nat, e = .returned (.int .u32 (x : Int)) ∧ Hid (x = crc S s.data.toList) ∧ w = w' := by
  refine (SumMore_any S s w hS (by omega) ht).mono ?_
  rintro e w' ⟨rfl, rfl⟩
  exact ⟨_, rfl, rfl, rfl⟩

/-- a byte with some of its bits turned is another -/
theorem turned_byte (c : UInt8) (z : Int) : ∃ d : UInt8, bits .xor .u8 (c.toNat : Int) (1 + z % 255) = (d.toNat : Int) ∧ d ≠ c := by
  have hc := c.toNat_lt
  have hk : (((1 + z % 255).toNat : Nat) : Int) = 1 + z % 255 := Int.toNat_of_nonneg (by omega)
  have hx := u8_xor_nat c.toNat (1 + z % 255).toNat (by omega) (by omega)
  have hlt : c.toNat ^^^ (1 + z % 255).toNat < 256 := Nat.xor_lt_two_pow (n := 8) (by omega) (by omega)
  rw [hk] at hx
  have hd : (UInt8.ofNat (c.toNat ^^^ (1 + z % 255).toNat)).toNat = c.toNat ^^^ (1 + z % 255).toNat := by rw [UInt8.toNat_ofNat']; exact Nat.mod_eq_of_lt hlt
  refine ⟨UInt8.ofNat (c.toNat ^^^ (1 + z % 255).toNat), by rw [hx, hd], fun e => ?_⟩
  have e2 := congrArg UInt8.toNat e
  rw [hd] at e2
  have e3 : (1 + z % 255).toNat = 0 := by
    apply xor_left (s := c.toNat)
    rw [e2, Nat.xor_zero]
  omega

end Go.Proofs.YtaaohmeabgopfaaDoor
