/- cut.Join and the reference's, the reference's Texts, by what they answer. -/
import Derived.Test.YtlncjheifkbomaaCutL
namespace Go.Proofs.Ytlncjheifkbomaa
open Go.RowKit Go.Shelf
/-- texts behind each other -/
def cat (ss : List ByteArray) : ByteArray := ⟨(ss.map (·.data.toList)).flatten.toArray⟩
theorem cat_nil : cat [] = ⟨#[]⟩ := rfl
theorem cat_snoc (ss : List ByteArray) (x : ByteArray) : cat (ss ++ [x]) = cat ss ++ x := by
  unfold cat
  apply ByteArray.ext
  rw [ByteArray.data_append]
  simp
theorem cat_cons (x : ByteArray) (l : List ByteArray) : (cat (x :: l)).size = x.size + (cat l).size := by
  show ((x :: l).map (·.data.toList)).flatten.toArray.size = x.size + (l.map (·.data.toList)).flatten.toArray.size
  simp only [List.map_cons, List.flatten_cons, List.size_toArray, List.length_append]
  simp
theorem cat_size (ss : List ByteArray) (s : Nat) (h : ∀ x ∈ ss, x.size = s) : (cat ss).size = ss.length * s := by
  induction ss with
  | nil => rw [cat_nil, List.length_nil, Nat.zero_mul]; rfl
  | cons x l ih =>
    rw [cat_cons, ih (fun y hy => h y (List.mem_cons_of_mem _ hy)), h x List.mem_cons_self, List.length_cons, Nat.succ_mul]
    omega
theorem cat_join (ss : List ByteArray) : (⟨(Lib.join (ss.map (·.data.toList)) (⟨#[]⟩ : ByteArray).data.toList).toArray⟩ : ByteArray) = cat ss := by
  unfold cat Lib.join
  congr 2
  induction ss.map (·.data.toList) with
  | nil => rfl
  | cons a l ih =>
    cases l with
    | nil => simp [List.intercalate]
    | cons b l => 
      simp only [List.intercalate, List.intersperse] at ih ⊢
      simp only [List.flatten_cons] at ih ⊢
      rw [ih]
      rfl
/-- so many texts of so many bytes -/
def txB (ss : List ByteArray) (many size : Int) : Bool := decide ((ss.length : Int) = many) && ss.all (fun t => decide ((t.size : Int) = size))
theorem txB_true {ss : List ByteArray} {many size : Int} (h : txB ss many size = true) : (ss.length : Int) = many ∧ ∀ x ∈ ss, (x.size : Int) = size := by
  unfold txB at h
  rw [Bool.and_eq_true, List.all_eq_true] at h
  exact ⟨of_decide_eq_true h.1, fun x hx => of_decide_eq_true (h.2 x hx)⟩
theorem all_snocS (l : List ByteArray) (p : ByteArray → Bool) (k : Nat) (h : k < l.length) : (l.take (k + 1)).all p = ((l.take k).all p && p (l.getD k ByteArray.empty)) := by
  rw [List.take_succ_eq_append_getElem h, List.all_append]
  simp [List.getD, h]
theorem all_atS (l : List ByteArray) (p : ByteArray → Bool) (k : Nat) (h : k < l.length) (hp : p (l.getD k ByteArray.empty) = false) : l.all p = false := by
  rw [List.all_eq_false]
  exact ⟨l[k], List.getElem_mem h, by have : l.getD k ByteArray.empty = l[k] := by simp [List.getD, h]
                                      rw [← this, hp]; exact Bool.false_ne_true⟩
theorem strs_len {W : World} {a : Option Addr} {l : Nat} {ss : List ByteArray} (h : StrsIn W a l ss) : ss.length = l := h.len_eq
theorem StrsIn.at {W : World} {a : Option Addr} {l : Nat} {ss : List ByteArray} (h : StrsIn W a l ss) (hl : 0 < l) : ∃ b off, a = some ⟨b, off, none⟩ ∧ ∀ i, i < l → ∀ w, Kept W w → w.cell? ⟨b, off + i, none⟩ = some (.string (ss.getD i ByteArray.empty)) := by
  obtain ⟨b, off, ha, hc⟩ := h.cells
  exact ⟨b, off, ha hl, fun i hi w kk => kk.cell (hc i hi).1 (hc i hi).2⟩
set_option maxRecDepth 100000 in
set_option maxHeartbeats 1000000 in
theorem texts_ref (a : Option Addr) (l cap : Nat) (ss : List ByteArray) (many size : Int) (w : World) (h : StrsIn w a l ss) (hl : l ≤ 9223372036854775806) :
    Calls Try.prog 26 #[.slice a l cap, .int .i64 many, .int .i64 size] w fun e w' => e = .returned (.bool (txB ss many size)) ∧ w = w' := by
  have HH := Lib.hid h
  have HLN := Lib.hid h.len_eq
  clear h
  go_enter Try.func26, Try.ntmps26
  go_wp2
  go_loopw [7] (fun i wr => ∃ k : Nat, k ≤ l ∧ i = .int .i64 k ∧ w = wr ∧ (ss.take k).all (fun t => decide ((t.size : Int) = size)) = true) (fun i _ => l - (intOf i).toNat)
  case atStart => exact ⟨0, by omega, by trivial, by trivial, by trivial⟩
  case round =>
    obtain ⟨k, hk, rfl, rfl, hall⟩ := hrel
    have HA := Lib.hid hall
    clear hall
    by_cases hlt : k < l
    · have hd1 : decide ((k : Int) < l) = true := decide_eq_true (by omega)
      by_cases hm : (k : Int) ≤ many
      · have hd2 : decide ((k : Int) ≤ many) = true := decide_eq_true hm
        obtain ⟨b, off, rfl, hc⟩ := HH.out.at (by omega)
        have c0 := hc k hlt w (Kept.refl _)
        have HS := Lib.hid (all_snocS ss (fun t => decide ((t.size : Int) = size)) k (by rw [HLN.out]; exact hlt))
        have HF := Lib.hid (all_atS ss (fun t => decide ((t.size : Int) = size)) k (by rw [HLN.out]; exact hlt))
        generalize ss.getD k ByteArray.empty = t at c0 HS HF
        clear hc
        by_cases hz : (t.size : Int) = size
        · have hd3 : ((t.size : Int) == size) = true := by rw [hz]; simp
          have hd4 : decide ((t.size : Int) = size) = true := decide_eq_true hz
          have HD4 := Lib.hid hd4
          go_wp2
          go_roundw
          case rel => exact ⟨k + 1, by omega, by go_num, by trivial, by rw [HS.out, HA.out, HD4.out]; rfl⟩
          case measure => simp [intOf]; omega
        · have hd3 : ((t.size : Int) == size) = false := by rw [beq_eq_false_iff_ne]; exact hz
          have hd4 : decide ((t.size : Int) = size) = false := decide_eq_false hz
          have HR := Lib.hid (show txB ss many size = false by unfold txB; rw [HF.out hd4, Bool.and_false])
          clear HS HF HA
          go_wp2
          go_ret
          exact ⟨by rw [HR.out]; rfl, rfl⟩
      · have hd2 : decide ((k : Int) ≤ many) = false := decide_eq_false hm
        have hne : ¬ (l : Int) = many := by omega
        have hd3 : ((l : Int) == many) = false := by rw [beq_eq_false_iff_ne]; exact hne
        have hd4 : decide ((l : Int) = many) = false := decide_eq_false hne
        have HR := Lib.hid (show txB ss many size = false by unfold txB; rw [HLN.out, hd4]; rfl)
        go_wp2
        go_ret
        exact ⟨by rw [HR.out]; rfl, rfl⟩
    · obtain rfl : k = l := by omega
      have hd1 : decide ((k : Int) < k) = false := decide_eq_false (by omega)
      have hall := HA.out
      rw [List.take_of_length_le (by rw [HLN.out]; omega)] at hall
      have HR := Lib.hid (show txB ss many size = decide ((k : Int) = many) by unfold txB; rw [HLN.out, hall, Bool.and_true])
      clear hall HA
      by_cases hm : (k : Int) = many
      · have hd3 : ((k : Int) == many) = true := by rw [hm]; simp
        have hd4 : decide ((k : Int) = many) = true := decide_eq_true hm
        rw [hd4] at HR
        go_wp2
        go_ret
        exact ⟨by rw [HR.out]; rfl, rfl⟩
      · have hd3 : ((k : Int) == many) = false := by rw [beq_eq_false_iff_ne]; exact hm
        have hd4 : decide ((k : Int) = many) = false := decide_eq_false hm
        rw [hd4] at HR
        go_wp2
        go_ret
        exact ⟨by rw [HR.out]; rfl, rfl⟩
/-- nothing but 0 from a byte on -/
def zeroFrom (u : ByteArray) (n : Nat) : Prop := ∀ i, n ≤ i → (h : i < u.size) → u[i] = 0
set_option maxRecDepth 100000 in
set_option maxHeartbeats 1000000 in
theorem join_ref (a : Option Addr) (l cap : Nat) (ss : List ByteArray) (n : Nat) (w : World) (h : StrsIn w a l ss) (hl : l ≤ 1000000) (hz : ∀ x ∈ ss, x.size ≤ 1000000) (hn : n ≤ (cat ss).size) :
    Calls Try.prog 27 #[.slice a l cap, .int .i64 n] w fun e w' => ((zeroFrom (cat ss) n ∧ e = .returned (.tuple #[.string ((cat ss).extract 0 n), .bool true])) ∨ (¬ zeroFrom (cat ss) n ∧ e = .returned (.tuple #[.string ByteArray.empty, .bool false]))) ∧ w = w' := by
  have HH := Lib.hid h
  have HLN := Lib.hid h.len_eq
  have HZ := Lib.hid hz
  have HN := Lib.hid hn
  clear h hz hn
  go_enter Try.func27, Try.ntmps27
  go_wp2
  go_loopw [6, 7] (fun s i wr => ∃ k : Nat, k ≤ l ∧ i = .int .i64 k ∧ s = .string (cat (ss.take k)) ∧ w = wr ∧ (cat (ss.take k)).size ≤ k * 1000000) (fun _ i _ => l - (intOf i).toNat)
  case atStart => exact ⟨0, by omega, rfl, rfl, rfl, by rw [List.take_zero, cat_nil]; exact Nat.le_refl 0⟩
  case round =>
    obtain ⟨k, hk, rfl, rfl, rfl, hsz⟩ := hrel
    by_cases hlt : k < l
    · have hd1 : decide ((k : Int) < l) = true := decide_eq_true (by omega)
      obtain ⟨b, off, rfl, hc⟩ := HH.out.at (by omega)
      have c0 := hc k hlt w (Kept.refl _)
      have hkl : k < ss.length := by rw [HLN.out]; exact hlt
      have htk : ss.take (k + 1) = ss.take k ++ [ss.getD k ByteArray.empty] := by
        rw [List.take_succ_eq_append_getElem hkl]; simp [List.getD, hkl]
      have hzk : (ss.getD k ByteArray.empty).size ≤ 1000000 := HZ.out _ (by simp [List.getD, hkl])
      generalize ss.getD k ByteArray.empty = t at c0 htk hzk
      have hcs : cat (ss.take (k + 1)) = cat (ss.take k) ++ t := by rw [htk, cat_snoc]
      have hcz : (cat (ss.take (k + 1))).size ≤ (k + 1) * 1000000 := by rw [hcs, ByteArray.size_append]; omega
      obtain ⟨v, hve⟩ : ∃ v, cat (ss.take (k + 1)) = v := ⟨_, rfl⟩
      rw [hve] at hcs hcz
      have hkb : k * 1000000 ≤ 1000000000000 := by omega
      generalize cat (ss.take k) = u at *
      have hA : ∀ w : World, (Op.stringOp .add u t).run Try.prog w = .ok (.string v) w := fun w => by rw [hcs]; exact run_string_add_sum _ _ _ (by omega)
      have HCZ := Lib.hid hcz
      have HE := Lib.hid hve
      have HCS := Lib.hid hcs
      clear hc htk hcs hcz hsz hve
      go_wp2
      go_roundw
      case rel => exact ⟨k + 1, by omega, by go_num, by rw [HE.out], by trivial, by rw [HE.out]; exact HCZ.out⟩
      case measure => simp [intOf]; omega
    · obtain rfl : k = l := by omega
      rw [List.take_of_length_le (by rw [HLN.out]; omega)] at *
      have hd1 : decide ((k : Int) < k) = false := decide_eq_false (by omega)
      have hkb : k * 1000000 ≤ 1000000000000 := by omega
      have hn := HN.out
      have HSZ := Lib.hid hsz
      have husz : (cat ss).size ≤ 1000000000000 := by omega
      clear hsz HN
      obtain ⟨u, hu⟩ : ∃ u, cat ss = u := ⟨_, rfl⟩
      rw [hu] at hn husz ⊢
      have HU := Lib.hid hu
      clear hu
      go_wp2
      go_loopw [8] (fun i wr => ∃ j : Nat, n ≤ j ∧ j ≤ u.size ∧ i = .int .i64 j ∧ w = wr ∧ ∀ i, n ≤ i → (h : i < u.size) → i < j → u[i] = 0) (fun i _ => u.size - (intOf i).toNat)
      case atStart => exact ⟨n, by omega, hn, rfl, by trivial, fun i h1 h2 h3 => by omega⟩
      case round =>
        obtain ⟨j, hj1, hj2, rfl, rfl, hall⟩ := hrel
        have HA := Lib.hid hall
        clear hall
        by_cases hlt : j < u.size
        · have hd2 : decide ((j : Int) < u.size) = true := decide_eq_true (by omega)
          by_cases hz : u[j] = 0
          · have HZ0 := Lib.hid hz
            have hz0 : u[j].toNat = 0 := by rw [hz]; rfl
            clear hz
            go_wp2
            go_roundw
            case rel => exact ⟨j + 1, by omega, by omega, by go_num, by trivial, fun i h1 h2 h3 => by
              by_cases e : i = j
              · subst e; exact HZ0.out
              · exact HA.out i h1 h2 (by omega)⟩
            case measure => simp [intOf]; omega
          · have hz0 : ¬ u[j].toNat = 0 := fun e => hz (UInt8.toNat_inj.1 (by rw [e]; rfl))
            have HNZ := Lib.hid (show ¬ zeroFrom u n from fun e => hz (e j hj1 hlt))
            clear hz
            go_wp2
            go_ret2
            rw [HU.out]
            exact ⟨.inr ⟨HNZ.out, rfl⟩, rfl⟩
        · obtain rfl : j = u.size := by omega
          have HZF := Lib.hid (show zeroFrom u n from fun i h1 h2 => HA.out i h1 h2 h2)
          have hd2 : decide ((u.size : Int) < u.size) = false := decide_eq_false (by omega)
          clear HA
          go_wp2
          go_ret2
          rw [HU.out]
          exact ⟨.inl ⟨HZF.out, rfl⟩, rfl⟩
end Go.Proofs.Ytlncjheifkbomaa
