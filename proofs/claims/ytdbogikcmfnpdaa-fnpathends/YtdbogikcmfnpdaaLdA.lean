/-
  Leads, twelve words of bits: endAt, has, or.
-/
import Derived.Test.YtdbogikcmfnpdaaPM
import Derived.Test.YtdbogikcmfnpdaaPtC
import Derived.Deep.MidRow
import Derived.Laws.BitsAllLaws
namespace Go.Proofs.Ytdbogikcmfnpdaa
open Go.RowKit

/-- the cells of leads -/
def lcells (f : Nat → Nat) : List Value := (List.range 13).map fun i => .int .u16 (f i : Int)
abbrev lv (f : Nat → Nat) : Value := .agg (lcells f).toArray
/-- a block that holds leads -/
def LBlk (w : World) (b : Nat) (f : Nat → Nat) : Prop := Blk w b 13 (fun i => .int .u16 (f i : Int))
theorem lcells_len (f : Nat → Nat) : (lcells f).length = 13 := by simp [lcells]
theorem lcells_size (f : Nat → Nat) : (lcells f).toArray.size = 13 := by simp [lcells]
theorem lcells_one (f : Nat → Nat) : (lcells f).toArray.all (·.oneCell') = true := by simp [lcells, Value.oneCell']
theorem lcells_congr {f g : Nat → Nat} (h : ∀ i, i < 13 → f i = g i) : lcells f = lcells g := List.map_congr_left fun i hi => by rw [h i (List.mem_range.1 hi)]
theorem LBlk.range {w : World} {b : Nat} {f : Nat → Nat} (h : LBlk w b f) : w.rangeAt b 0 (lcells f) := by
  intro j v hv
  have hj : j < 13 := by have := (List.getElem?_eq_some_iff.1 hv).1; rwa [lcells_len] at this
  simp [lcells, hj] at hv
  subst hv
  rw [Nat.zero_add]
  exact Blk.cell h hj
theorem LBlk.there {w : World} {b : Nat} {f : Nat → Nat} (h : LBlk w b f) : w.there b 0 13 := by
  intro j hj
  rw [Nat.zero_add]
  exact ⟨by rw [Blk.cell h hj]; rfl, Blk.frozen h j⟩
theorem LBlk.new (w : World) (b : Nat) (hb : b = w.heap.size) (f : Nat → Nat) (T : TypeId) : LBlk (w.alloc (.cells (lcells f).toArray T)) b f := by
  have := blk_new w (lcells f).toArray T (fun i => .int .u16 (f i : Int)) (fun i hi => by rw [lcells_size] at hi; simp [lcells, hi])
  rw [lcells_size] at this
  rw [hb]; exact this
theorem LBlk.zero (w : World) (b : Nat) (hb : b = w.heap.size) (T : TypeId) : LBlk (w.alloc (.cells #[.int .u16 0, .int .u16 0, .int .u16 0, .int .u16 0, .int .u16 0, .int .u16 0, .int .u16 0, .int .u16 0, .int .u16 0, .int .u16 0, .int .u16 0, .int .u16 0, .int .u16 0] T)) b (fun _ => 0) := LBlk.new w b hb (fun _ => 0) T
theorem LBlk.of {w w' : World} {b : Nat} {f : Nat → Nat} (h : LBlk w b f) (e : w'.heap[b]? = w.heap[b]?) : LBlk w' b f := Blk.of_block h e
theorem LBlk.lt {w : World} {b : Nat} {f : Nat → Nat} (h : LBlk w b f) : b < w.heap.size := Blk.lt h
theorem Blk.setRange {b n : Nat} : ∀ (vs : List Value) (o : Nat) {w : World} {f : Nat → Value}, Blk w b n f → o + vs.length ≤ n → Blk (w.setCells b o vs) b n (fun i => if o ≤ i ∧ i < o + vs.length then vs.getD (i - o) (.int .i64 0) else f i)
  | [], o, w, f, h, _ => h.congr fun i hi => by simp; intro h1 h2; omega
  | v :: r, o, w, f, h, hl => by
    simp only [List.length_cons] at hl
    have h2 := Blk.setRange r (o + 1) (h.set o (by omega) v) (by omega)
    refine h2.congr fun i hi => ?_
    by_cases e : i = o
    · subst e
      rw [if_neg (by omega), if_pos rfl, if_pos (by simp only [List.length_cons]; omega)]
      simp
    · by_cases e2 : o + 1 ≤ i ∧ i < o + 1 + r.length
      · rw [if_pos e2, if_pos (by simp only [List.length_cons]; omega)]
        obtain ⟨d, rfl⟩ : ∃ d, i = o + 1 + d := ⟨i - (o + 1), by omega⟩
        rw [show o + 1 + d - (o + 1) = d by omega, show o + 1 + d - o = d + 1 by omega]
        simp
      · rw [if_neg e2, if_neg e, if_neg (by simp only [List.length_cons]; omega)]
theorem LBlk.put {w : World} {b : Nat} {f : Nat → Nat} (h : LBlk w b f) (g : Nat → Nat) : LBlk (w.setCells b 0 (lcells g)) b g := by
  refine (Blk.setRange (lcells g) 0 h (by rw [lcells_len]; omega)).congr fun i hi => ?_
  rw [if_pos ⟨Nat.zero_le _, by rw [lcells_len]; omega⟩]
  simp [lcells, List.getD, hi]
theorem KeptP.setCells {p : Nat → Prop} {g : Nat} (hg : p g) {w : World} : ∀ (vs : List Value) (o : Nat) {w1 : World}, KeptP p w w1 → KeptP p w (w1.setCells g o vs)
  | [], _, _, h => h
  | v :: r, o, _, h => KeptP.setCells hg r (o + 1) (h.setCell hg v)
theorem size_setCells (b : Nat) : ∀ (vs : List Value) (o : Nat) (w : World), (w.setCells b o vs).heap.size = w.heap.size
  | [], _, _ => rfl
  | v :: r, o, w => by rw [World.setCells, size_setCells b r]; simp
theorem block_setCells {b c : Nat} (h : c ≠ b) : ∀ (vs : List Value) (o : Nat) (w : World), (w.setCells b o vs).heap[c]? = w.heap[c]?
  | [], _, _ => rfl
  | v :: r, o, w => by rw [World.setCells, block_setCells h r, Below.heap_setCell w ⟨b, o, none⟩ v c (by simpa using h)]
theorem Below.setCells {B b : Nat} (hb : B ≤ b) : ∀ (vs : List Value) (o : Nat) {w w1 : World}, Below B w w1 → Below B w (w1.setCells b o vs)
  | [], _, _, _, h => h
  | v :: r, o, _, _, h => Below.setCells hb r (o + 1) (h.setCell hb v)
/-- one word of leads set -/
theorem LBlk.set1 {w : World} {b k : Nat} {f : Nat → Nat} (h : LBlk w b f) (hk : k < 13) (x : Nat) : LBlk (w.setCell ⟨b, k, none⟩ (.int .u16 (x : Int))) b (fun i => if i = k then x else f i) :=
  (Blk.set h k hk _).congr fun i hi => by by_cases e : i = k <;> simp [e]
theorem LBlk.congr {w : World} {b : Nat} {f g : Nat → Nat} (h : LBlk w b f) (e : ∀ i, i < 13 → f i = g i) : LBlk w b g := Blk.congr h fun i hi => by rw [e i hi]
theorem LBlk.get {w : World} {b k : Nat} {f : Nat → Nat} (h : LBlk w b f) (hk : k < 13) : w.cell? ⟨b, k, none⟩ = some (.int .u16 (f k : Int)) := Blk.cell h hk
/-- an answer that lies in a block -/
theorem results_row {P : Program} {F : Func} {tmps : Array Value} {w : World} {k t b : Nat} {v : Value} (hr : F.results = #[.cell k t]) (hk : tmps[k]? = some (.pointer (some ⟨b, 0, none⟩))) (hl : (loadVar t ⟨b, 0, none⟩).run P w = .ok v w) : (results F tmps).run P w = .ok v w := by
  have e : (#[ResultVar.cell k t] : Array ResultVar) = [ResultVar.cell k t].toArray := rfl
  simp [results, hr, hk, asAddr, hl]
theorem info_leads : (Try.prog.info? 87).map (·.size) = some 13 := by kernel_rfl
theorem load_leads {w : World} {b : Nat} {f : Nat → Nat} (h : LBlk w b f) : (loadVar 87 ⟨b, 0, none⟩).run Try.prog w = .ok (lv f) w :=
  run_loadVar_mid w b 0 87 (lcells f) _ h.range Try.underlying87 rfl (by rw [lcells_len]; exact info_leads)
theorem or_lt {a b : Nat} (ha : a < 65536) (hb : b < 65536) : a ||| b < 65536 := by
  have : (65536 : Nat) = 2 ^ 16 := rfl
  rw [this] at *
  exact Nat.or_lt_two_pow ha hb

set_option maxHeartbeats 1000000 in
theorem endAt_any (v : Nat) (w : World) (hv : v < 13) : Calls Try.prog 90 #[.int .i64 (v : Int)] w fun e w' => (∃ x : Nat, e = .returned (.int .u16 (x : Int)) ∧ Hid (x = 2 ^ v)) ∧ w = w' := by
  have h0 : (0 : Int) ≤ (v : Int) := by omega
  have h1 : (v : Int) < 16 := by omega
  have hw : IntKind.u16.wrap (2 ^ v) = ((2 ^ v : Nat) : Int) := by
    have : 2 ^ v < 65536 := by
      have := Nat.pow_lt_pow_right (a := 2) (by omega) (show v < 16 by omega)
      simpa using this
    rw [IntKind.wrap_u16]
    have e : ((2 : Int) ^ v) = ((2 ^ v : Nat) : Int) := by simp
    rw [e]
    generalize 2 ^ v = y at this
    omega
  go_enter Try.func90, Try.ntmps90
  go_wp2
  go_ret
  exact ⟨⟨2 ^ v, by simp, rfl⟩, rfl⟩
theorem and_pow (x v : Nat) : x &&& 2 ^ v = if x.testBit v = true then 2 ^ v else 0 := by
  apply Nat.eq_of_testBit_eq
  intro j
  rw [Nat.testBit_and, Nat.testBit_two_pow]
  by_cases e : v = j
  · subst e
    cases h : x.testBit v
    · simp
    · simp
  · have e2 : decide (v = j) = false := decide_eq_false e
    rw [e2, Bool.and_false]
    split
    · rw [Nat.testBit_two_pow, e2]
    · simp
set_option maxHeartbeats 1000000 in
theorem has_any (x v : Nat) (r : Bool) (w : World) (hv : v < 13) (hx : x < 65536) (hr : r = x.testBit v) : Calls Try.prog 74 #[.int .u16 (x : Int), .int .i64 (v : Int)] w fun e w' => e = .returned (.bool r) ∧ w = w' := by
  have HR : Hid (r = x.testBit v) := hr
  clear hr
  go_enter Try.func74, Try.ntmps74
  go_wp2_with fail
  refine (endAt_any v _ hv).mono ?_
  rintro e w1 ⟨⟨y, rfl, HY⟩, rfl⟩
  have hy : y < 65536 := by
    rw [HY.out]
    have := Nat.pow_lt_pow_right (a := 2) (by omega) (show v < 16 by omega)
    simpa using this
  have hb := u16_and_nat x y hx hy
  have hq : ((((x &&& y : Nat) : Int)) != 0) = r := by
    rw [HR.out, HY.out, and_pow]
    have := Nat.two_pow_pos v
    cases x.testBit v
    · simp
    · simp only [if_true, bne_iff_ne, ne_eq]
      omega
  go_wp2
  go_ret
  exact ⟨by rw [← hq]; rfl, rfl⟩

set_option maxHeartbeats 2000000 in
set_option maxRecDepth 100000 in
theorem or_any (f g : Nat → Nat) (w : World) (hf : ∀ i, i < 13 → f i < 65536) (hg : ∀ i, i < 13 → g i < 65536) : Calls Try.prog 97 #[lv f, lv g] w fun e w' => e = .returned (lv (orF f g)) ∧ Hid (Below w.heap.size w w') := by
  have HF : Hid (∀ i, i < 13 → f i < 65536) := hf
  have HG : Hid (∀ i, i < 13 → g i < 65536) := hg
  clear hf hg
  obtain ⟨cf, HCF⟩ : ∃ cf, Hid (cf = (lcells f).toArray) := ⟨_, rfl⟩
  obtain ⟨cg, HCG⟩ : ∃ cf, Hid (cf = (lcells g).toArray) := ⟨_, rfl⟩
  have hf : cf.size = 13 := by rw [HCF.out]; simp [lcells]
  have hg : cg.size = 13 := by rw [HCG.out]; simp [lcells]
  unfold lv
  rw [← HCF.out, ← HCG.out]
  obtain ⟨B, HB⟩ : ∃ B, Hid (B = w.heap.size) := ⟨_, rfl⟩
  go_enter Try.func97, Try.ntmps97
  go_wp2
  rw [← HB.out]
  go_loopw [6] (fun i wr => ∃ k : Nat, i = .int .i64 k ∧ k ≤ 13 ∧ Hid (LBlk wr B (fun j => if j < k then f j ||| g j else f j)) ∧ Hid (LBlk wr (B + 1) g) ∧ Hid (LBlk wr (B + 1 + 1) (fun _ => 0)) ∧ Hid (Below w.heap.size w wr)) (fun i _ => 13 - (intOf i).toNat)
  case atStart =>
    refine ⟨0, rfl, by omega, ?_, ?_, LBlk.zero _ _ (by rw [HB.out]; simp) _, below3 _ _ _ _⟩
    · rw [HCF.out]
      have h1 := LBlk.new w B HB.out f 87
      have h2 := ((h1.congr (g := fun j => if j < 0 then f j ||| g j else f j) (fun i _ => by simp)))
      exact Blk.alloc (Blk.alloc h2 _) _
    · rw [HCG.out]
      exact Blk.alloc (LBlk.new _ (B + 1) (by rw [HB.out]; simp) g 87) _
  case round =>
    obtain ⟨k, rfl, hk, HX, HY, HZ, HL⟩ := hrel
    by_cases hlt : k < 13
    · have hlt1 : (k : Int) < 13 := by omega
      have hlt0 : (0 : Int) ≤ (k : Int) := by omega
      have c0 := HX.out.get hlt
      rw [if_neg (by omega)] at c0
      have c1 := HY.out.get hlt
      have fz := Blk.frozen HX.out k
      obtain ⟨x, HXX⟩ : ∃ x, Hid (x = f k) := ⟨_, rfl⟩
      obtain ⟨y, HYY⟩ : ∃ x, Hid (x = g k) := ⟨_, rfl⟩
      rw [← HXX.out] at c0
      rw [← HYY.out] at c1
      have hb := u16_or_nat x y (by rw [HXX.out]; exact HF.out k hlt) (by rw [HYY.out]; exact HG.out k hlt)
      obtain ⟨z, HZZ⟩ : ∃ z, Hid (z = x ||| y) := ⟨_, rfl⟩
      rw [← HZZ.out] at hb
      go_wp2_with fail
      go_region
      go_wp2
      go_roundw
      case rel =>
        refine ⟨k + 1, by go_num, by omega, ?_, ?_, ?_, ?_⟩
        · refine (HX.out.set1 hlt z).congr fun i hi => ?_
          by_cases e : i = k
          · subst e; simp [HZZ.out, HXX.out, HYY.out]
          · by_cases e2 : i < k
            · simp [e, e2, show i < k + 1 by omega]
            · simp [e, e2, show ¬ i < k + 1 by omega]
        · exact HY.out.of (Below.heap_setCell _ _ _ _ (by simp))
        · exact HZ.out.of (Below.heap_setCell _ _ _ _ (by simp; omega))
        · exact (HL.out.setCell (p := ⟨B, k, none⟩) (by show w.heap.size ≤ B; have := HB.out; omega) _).drew
      case measure => simp [intOf]; omega
    · obtain rfl : k = 13 := by omega
      have HXE : Hid (LBlk wr B (orF f g)) := HX.out.congr fun i hi => by simp [hi, orF]
      go_wp2_with (first | (refine wpList_load_mid rfl 87 _ rfl B 0 rfl (lcells (orF f g)) _ HXE.out.range Try.underlying87 rfl (by rw [lcells_len]; exact info_leads) ?_) | (refine wpList_store_mid rfl 87 _ _ rfl (B + 1 + 1) 0 (lcells (orF f g)).toArray rfl rfl (by rw [lcells_size]; exact HZ.out.there) (by rw [lcells_size]; exact info_leads) (lcells_one _) ?_))
      refine bodyPost_ret (results_row (by exact Try.results97) rfl (load_leads (HZ.out.put (orF f g)))) rfl ?_
      exact ⟨rfl, Below.setCells (by have := HB.out; omega) _ _ HL.out⟩
end Go.Proofs.Ytdbogikcmfnpdaa
