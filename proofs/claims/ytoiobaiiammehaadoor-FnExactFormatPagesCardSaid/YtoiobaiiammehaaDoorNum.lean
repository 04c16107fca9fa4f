/- Plain mathematics behind the encodings of chapter 1: fixed-width numbers, LEB128 varints, hexadecimal digits, over lists of bytes; no program. -/
namespace Go.Proofs.YtoiobaiiammehaaDoor.Num

/-! ### Fixed width -/
/-- The w lowest base-256 digits of n, the highest first. -/
def be : Nat → Nat → List UInt8
  | 0, _ => []
  | w + 1, n => UInt8.ofNat (n / 256 ^ w) :: be w n
theorem be_length : ∀ w n, (be w n).length = w
  | 0, _ => rfl
  | w + 1, n => by simp [be, be_length w n]
/-- The number that a row of bytes spells, the highest byte first. -/
def bval : List UInt8 → Nat := List.foldl (fun a b => a * 256 + b.toNat) 0
theorem bval_snoc (l : List UInt8) (b : UInt8) : bval (l ++ [b]) = bval l * 256 + b.toNat := by simp [bval]
theorem bval_nil : bval [] = 0 := rfl
theorem foldl_bval : ∀ (l : List UInt8) (a : Nat), List.foldl (fun a b => a * 256 + b.toNat) a l = a * 256 ^ l.length + List.foldl (fun a b => a * 256 + b.toNat) 0 l
  | [], a => by simp
  | b :: l, a => by
    rw [List.foldl_cons, foldl_bval l, List.foldl_cons, foldl_bval l (0 * 256 + b.toNat), List.length_cons, Nat.pow_succ, Nat.zero_mul, Nat.zero_add, Nat.add_mul]
    have : a * 256 * 256 ^ l.length = a * (256 ^ l.length * 256) := by rw [Nat.mul_assoc, Nat.mul_comm 256]
    omega
theorem bval_cons (b : UInt8) (l : List UInt8) : bval (b :: l) = b.toNat * 256 ^ l.length + bval l := by
  rw [bval, List.foldl_cons, foldl_bval]; simp
theorem bval_lt : ∀ (l : List UInt8), bval l < 256 ^ l.length
  | [] => by simp [bval]
  | b :: l => by
    have ih := bval_lt l
    have hb : b.toNat ≤ 255 := by have := b.toNat_lt; omega
    have hm := Nat.mul_le_mul_right (256 ^ l.length) hb
    rw [bval_cons, List.length_cons, Nat.pow_succ]
    omega
theorem bval_be : ∀ (w n : Nat), bval (be w n) = n % 256 ^ w
  | 0, n => by simp [be, bval, Nat.mod_one]
  | w + 1, n => by
    rw [be, bval_cons, be_length, bval_be w n, UInt8.toNat_ofNat', Nat.pow_succ 256 w, Nat.mod_mul, Nat.mul_comm, Nat.add_comm]
theorem be_append (w n k : Nat) : be (w + k) n = be k (n / 256 ^ w) ++ be w n := by
  induction k with
  | zero => simp [be]
  | succ k ih => rw [← Nat.add_assoc, be, ih, be, Nat.div_div_eq_div_mul, Nat.pow_add]; rfl
theorem be_get : ∀ (w n j : Nat) (h : j < (be w n).length), (be w n)[j] = UInt8.ofNat (n / 256 ^ (w - 1 - j))
  | 0, _, _, h => by simp [be] at h
  | w + 1, n, 0, _ => by simp [be]
  | w + 1, n, j + 1, h => by
    simp only [be, List.getElem_cons_succ]
    rw [be_get w n j, show w + 1 - 1 - (j + 1) = w - 1 - j by omega]
/-- The row while it is being filled from the front. -/
def fx (w n k : Nat) : List UInt8 := (be w n).take k ++ List.replicate (w - k) 0
theorem fx_zero (w n : Nat) : fx w n 0 = List.replicate w 0 := by simp [fx]
theorem fx_end (w n : Nat) : fx w n w = be w n := by
  unfold fx; rw [List.take_of_length_le (by rw [be_length]; exact Nat.le_refl _)]; simp
theorem fx_step (w n k : Nat) (h : k < w) : (fx w n k).set k (UInt8.ofNat (n / 256 ^ (w - 1 - k))) = fx w n (k + 1) := by
  have hl : ((be w n).take k).length = k := by rw [List.length_take, be_length]; omega
  unfold fx
  rw [List.set_append_right _ _ (by omega), hl, Nat.sub_self, show w - k = w - (k + 1) + 1 by omega, List.replicate_succ, List.set_cons_zero, List.take_succ_eq_append_getElem (by rw [be_length]; exact h), be_get, List.append_assoc]
  rfl
theorem fx_length (w n k : Nat) (h : k ≤ w) : (fx w n k).length = w := by simp [fx, be_length]; omega
/-- What EncodeFixed answers. -/
def encFixed (n width : Int) : List UInt8 := if 1 ≤ width ∧ width ≤ 7 ∧ 0 ≤ n ∧ n.toNat < 256 ^ width.toNat then be width.toNat n.toNat else []
/-- What DecodeFixed answers: the number, and whether there is one. -/
def decFixedOk (l : List UInt8) (width : Int) : Bool := decide (1 ≤ width ∧ width ≤ 7 ∧ width ≤ l.length)
def decFixed (l : List UInt8) (width : Int) : Nat := if decFixedOk l width then bval (l.take width.toNat) else 0

/-! ### Varints -/
/-- LEB128 with at most f further bytes. -/
def leb : Nat → Nat → List UInt8
  | 0, n => [UInt8.ofNat n]
  | f + 1, n => if n < 128 then [UInt8.ofNat n] else UInt8.ofNat (128 + n % 128) :: leb f (n / 128)
/-- What EncodeVarint answers. -/
def encVar (n : Int) : List UInt8 := if 0 ≤ n ∧ n ≤ 562949953421311 then leb 6 n.toNat else []
/-- Seven bits a byte, the lowest group first. -/
def v7 : List UInt8 → Nat
  | [] => 0
  | b :: l => b.toNat % 128 + 128 * v7 l
theorem v7_snoc : ∀ (l : List UInt8) (b : UInt8), v7 (l ++ [b]) = v7 l + 128 ^ l.length * (b.toNat % 128)
  | [], b => by simp [v7]
  | c :: l, b => by
    rw [List.cons_append, v7, v7_snoc l b, v7, List.length_cons, Nat.pow_succ]
    have : 128 * (128 ^ l.length * (b.toNat % 128)) = 128 ^ l.length * 128 * (b.toNat % 128) := by rw [← Nat.mul_assoc, Nat.mul_comm 128]
    omega
theorem v7_lt : ∀ l : List UInt8, v7 l < 128 ^ l.length
  | [] => by simp [v7]
  | b :: l => by have := v7_lt l; rw [v7, List.length_cons, Nat.pow_succ]; have := Nat.mod_lt b.toNat (show 0 < 128 by decide); omega
/-- A varint, no byte more than it needs. -/
def canon : List UInt8 → Prop
  | [] => False
  | [b] => b.toNat < 128
  | b :: c :: l => 128 ≤ b.toNat ∧ v7 (c :: l) ≠ 0 ∧ canon (c :: l)
theorem ofNat_eq_iff (n : Nat) (b : UInt8) (h : n < 256) : UInt8.ofNat n = b ↔ n = b.toNat := by
  constructor
  · rintro rfl; rw [UInt8.toNat_ofNat']; omega
  · rintro rfl; simp
theorem leb_canon : ∀ (f : Nat) (l : List UInt8), l.length ≤ f + 1 → (leb f (v7 l) = l ↔ canon l)
  | _, [], _ => by
    rename_i f _; cases f <;> simp [leb, canon]; split <;> simp
  | 0, [b], _ => by
    have hb := b.toNat_lt
    simp only [leb, v7, canon, List.cons.injEq, and_true]
    rw [ofNat_eq_iff _ _ (by omega)]; omega
  | 0, _ :: _ :: _, h => by simp at h
  | f + 1, [b], _ => by
    have hb := b.toNat_lt
    have h7 : v7 [b] = b.toNat % 128 := by simp [v7]
    rw [h7, leb, if_pos (by omega), canon, List.cons.injEq, ofNat_eq_iff _ _ (by omega)]
    simp
  | f + 1, b :: c :: l, h => by
    have hb := b.toNat_lt
    have ih := leb_canon f (c :: l) (by simpa using h)
    rw [leb, v7, canon]
    by_cases h0 : v7 (c :: l) = 0
    · rw [h0, if_pos (by omega)]; simp
    · rw [if_neg (by omega), show (b.toNat % 128 + 128 * v7 (c :: l)) / 128 = v7 (c :: l) by omega, List.cons.injEq, ih, ofNat_eq_iff _ _ (by omega)]
      constructor
      · rintro ⟨h1, h2⟩; exact ⟨by omega, h0, h2⟩
      · rintro ⟨h1, _, h2⟩; exact ⟨by omega, h2⟩
/-- n back out of its varint. -/
theorem v7_leb : ∀ (f n : Nat), n < 128 ^ (f + 1) → v7 (leb f n) = n
  | 0, n, h => by simp at h; simp only [leb, v7, UInt8.toNat_ofNat']; omega
  | f + 1, n, h => by
    rw [leb]
    split
    · simp only [v7, UInt8.toNat_ofNat']; omega
    · rw [v7, v7_leb f (n / 128) (by rw [Nat.pow_succ] at h; omega), UInt8.toNat_ofNat']; omega
theorem leb_length : ∀ (f n : Nat), 1 ≤ (leb f n).length ∧ (leb f n).length ≤ f + 1
  | 0, n => by simp [leb]
  | f + 1, n => by
    have := leb_length f (n / 128)
    rw [leb]; split <;> simp <;> omega

/-- The varint at the beginning of l, from byte k on, f bytes more at the most: its number and its length; 0 and 0 if there is none. -/
def dv (l : List UInt8) : Nat → Nat → Nat × Nat
  | 0, _ => (0, 0)
  | f + 1, k => match l[k]? with
    | none => (0, 0)
    | some b => if 128 ≤ b.toNat then dv l f (k + 1) else if b.toNat = 0 ∧ 0 < k then (0, 0) else (v7 (l.take (k + 1)), k + 1)
/-- What DecodeVarint answers. -/
def decV (l : List UInt8) : Nat × Nat := dv l 7 0
theorem dv_end (l : List UInt8) (f k : Nat) (h : l.length ≤ k ∨ f = 0) : dv l f k = (0, 0) := by
  cases f with
  | zero => rfl
  | succ f => rw [dv, List.getElem?_eq_none (by omega)]
theorem dv_more (l : List UInt8) (f k : Nat) (hk : k < l.length) (h : 128 ≤ l[k].toNat) : dv l (f + 1) k = dv l f (k + 1) := by
  rw [dv, List.getElem?_eq_getElem hk]; simp [h]
theorem dv_zero (l : List UInt8) (f k : Nat) (hk : k < l.length) (h : l[k].toNat = 0) (h0 : 0 < k) : dv l (f + 1) k = (0, 0) := by
  rw [dv, List.getElem?_eq_getElem hk]; simp [h, h0]
theorem dv_here (l : List UInt8) (f k : Nat) (hk : k < l.length) (h : l[k].toNat < 128) (h0 : k = 0 ∨ l[k].toNat ≠ 0) : dv l (f + 1) k = (v7 (l.take (k + 1)), k + 1) := by
  rw [dv, List.getElem?_eq_getElem hk]; simp only []; rw [if_neg (by omega), if_neg (by omega)]
theorem take_snoc (l : List UInt8) (k : Nat) (h : k < l.length) : l.take (k + 1) = l.take k ++ [l[k]] := by
  rw [List.take_succ_eq_append_getElem h]
theorem v7_take (l : List UInt8) (k : Nat) (h : k < l.length) : v7 (l.take (k + 1)) = v7 (l.take k) + 128 ^ k * (l[k].toNat % 128) := by
  rw [take_snoc l k h, v7_snoc, List.length_take, Nat.min_eq_left (by omega)]

theorem canon_long : ∀ (l : List UInt8), canon l → ∀ (j : Nat) (h : j < l.length), j + 1 < l.length → 128 ≤ l[j].toNat
  | [], h, _, _, _ => h.elim
  | [_], _, j, _, h1 => by simp at h1
  | b :: c :: l, h, j, hj, h1 => by
    cases j with
    | zero => exact h.1
    | succ j => exact canon_long (c :: l) h.2.2 j (by simpa using hj) (by simpa using h1)
theorem v7_snoc_ne (p : List UInt8) (b : UInt8) (h : b.toNat % 128 ≠ 0) : v7 (p ++ [b]) ≠ 0 := by
  rw [v7_snoc]
  have h1 : 0 < 128 ^ p.length := Nat.pow_pos (by decide)
  have h2 : 128 ^ p.length * 1 ≤ 128 ^ p.length * (b.toNat % 128) := Nat.mul_le_mul_left _ (by omega)
  omega
theorem canon_snoc : ∀ (p : List UInt8) (b : UInt8), (∀ (j : Nat) (h : j < p.length), 128 ≤ p[j].toNat) → (canon (p ++ [b]) ↔ b.toNat < 128 ∧ (p = [] ∨ b.toNat ≠ 0))
  | [], b, _ => by simp [canon]
  | [a], b, h => by
    have h0 := h 0 (by simp)
    simp only [List.getElem_cons_zero] at h0
    simp only [List.cons_append, List.nil_append, canon, v7]
    have : ([a] : List UInt8) ≠ [] := by simp
    constructor
    · rintro ⟨_, h1, h2⟩; exact ⟨h2, .inr (by omega)⟩
    · rintro ⟨h1, h2⟩
      have h3 : b.toNat ≠ 0 := by
        rcases h2 with h2 | h2
        · exact absurd h2 this
        · exact h2
      exact ⟨h0, by omega, h1⟩
  | a :: c :: p, b, h => by
    have h0 := h 0 (by simp)
    simp only [List.getElem_cons_zero] at h0
    have ih := canon_snoc (c :: p) b (fun j hj => by have := h (j + 1) (by simpa using hj); simpa using this)
    have e : (a :: c :: p) ++ [b] = a :: c :: (p ++ [b]) := rfl
    have e' : (c :: p) ++ [b] = c :: (p ++ [b]) := rfl
    rw [e, canon, ← e', ih]
    have key : (c :: p = [] ∨ b.toNat ≠ 0) → b.toNat ≠ 0 := fun h2 => by
      rcases h2 with h2 | h2
      · cases h2
      · exact h2
    constructor
    · rintro ⟨_, _, h1, h2⟩
      exact ⟨h1, .inr (key h2)⟩
    · rintro ⟨h1, h2⟩
      have h3 : b.toNat ≠ 0 := by
        rcases h2 with h2 | h2
        · cases h2
        · exact h2
      exact ⟨h0, v7_snoc_ne _ _ (by omega), h1, .inr h3⟩
/-- The reference's way: the first length at which the number's own varint is the prefix. -/
def sv (l : List UInt8) : Nat → Nat → Nat × Nat
  | 0, _ => (0, 0)
  | f + 1, k => if k ≤ l.length then if leb 6 (v7 (l.take k)) = l.take k then (v7 (l.take k), k) else sv l f (k + 1) else (0, 0)
theorem sv_dead (l : List UInt8) : ∀ (f k j : Nat) (hj : j < l.length), l[j].toNat < 128 → j + 1 < k → k + f ≤ 8 → sv l f k = (0, 0)
  | 0, _, _, _, _, _, _ => rfl
  | f + 1, k, j, hj, h, hjk, hf => by
    rw [sv]
    split
    · rename_i hk
      rw [if_neg, sv_dead l f (k + 1) j hj h (by omega) (by omega)]
      intro he
      have hc := (leb_canon 6 _ (by rw [List.length_take]; omega)).1 he
      have := canon_long _ hc j (by rw [List.length_take]; omega) (by rw [List.length_take]; omega)
      rw [List.getElem_take] at this
      omega
    · rfl
theorem sv_dv (l : List UInt8) : ∀ (f k : Nat), k + f = 7 → (∀ (j : Nat) (h : j < l.length), j < k → 128 ≤ l[j].toNat) → sv l f (k + 1) = dv l f k
  | 0, _, _, _ => rfl
  | f + 1, k, hf, hall => by
    rw [sv]
    by_cases hk : k + 1 ≤ l.length
    · rw [if_pos hk]
      have hkl : k < l.length := by omega
      have hcan : canon (l.take (k + 1)) ↔ l[k].toNat < 128 ∧ (l.take k = [] ∨ l[k].toNat ≠ 0) := by
        rw [take_snoc l k hkl]
        exact canon_snoc _ _ fun j hj => by
          rw [List.length_take] at hj
          rw [List.getElem_take]
          exact hall j (by omega) (by omega)
      rw [← leb_canon 6 _ (by rw [List.length_take]; omega)] at hcan
      by_cases hb : 128 ≤ l[k].toNat
      · rw [if_neg (fun he => by have := (hcan.1 he).1; omega), dv_more l f k hkl hb]
        exact sv_dv l f (k + 1) (by omega) fun j hj hjk => by
          by_cases e : j = k
          · subst e; exact hb
          · exact hall j hj (by omega)
      · by_cases hz : l[k].toNat = 0 ∧ 0 < k
        · rw [if_neg, dv_zero l f k hkl hz.1 hz.2, sv_dead l f (k + 1 + 1) k hkl (by omega) (by omega) (by omega)]
          intro he
          rcases (hcan.1 he).2 with h | h
          · have := congrArg List.length h
            rw [List.length_take, List.length_nil] at this
            omega
          · exact h hz.1
        · have hor : l.take k = [] ∨ l[k].toNat ≠ 0 := by
            by_cases h0 : l[k].toNat = 0
            · have : k = 0 := by omega
              exact .inl (by rw [this]; rfl)
            · exact .inr h0
          rw [if_pos (hcan.2 ⟨by omega, hor⟩), dv_here l f k hkl (by omega) (by omega)]
    · rw [if_neg hk, dv_end l (f + 1) k (.inl (by omega))]
theorem sv_decV (l : List UInt8) : sv l 7 1 = decV l := sv_dv l 7 0 rfl fun _ _ h => by omega
theorem canon_last : ∀ (p : List UInt8), canon p → ∃ (q : List UInt8) (b : UInt8), p = q ++ [b] ∧ b.toNat < 128 ∧ (q = [] ∨ b.toNat ≠ 0)
  | [], h => h.elim
  | [b], h => ⟨[], b, rfl, h, .inl rfl⟩
  | a :: c :: l, h => by
    obtain ⟨q, b, hq, hb, h0⟩ := canon_last (c :: l) h.2.2
    refine ⟨a :: q, b, by rw [hq]; rfl, hb, .inr ?_⟩
    intro hz
    have hv := h.2.1
    rw [hq] at hv
    rcases h0 with h0 | h0
    · rw [h0] at hv; simp [v7, hz] at hv
    · exact h0 hz
theorem dv_canon (p r : List UInt8) (hp : canon p) (hl : p.length ≤ 7) : ∀ (f k : Nat), k + f = 7 → k < p.length → dv (p ++ r) f k = (v7 p, p.length)
  | 0, k, h, hk => by omega
  | f + 1, k, h, hk => by
    have hkl : k < (p ++ r).length := by rw [List.length_append]; omega
    have hg : (p ++ r)[k] = p[k] := List.getElem_append_left hk
    by_cases hlast : k + 1 = p.length
    · obtain ⟨q, b, hq, hb, h0⟩ := canon_last p hp
      have hql : q.length = k := by have := congrArg List.length hq; simp at this; omega
      have hpk : p[k] = b := by
        have : p[k]? = some b := by rw [hq, List.getElem?_append_right (by omega), hql]; simp
        rw [List.getElem?_eq_getElem hk] at this
        exact Option.some.inj this
      rw [dv_here _ f k hkl (by rw [hg, hpk]; exact hb) (by
        rw [hg, hpk]
        rcases h0 with h0 | h0
        · left; rw [h0] at hql; exact hql.symm
        · exact .inr h0)]
      rw [hlast, List.take_left']
      rfl
    · rw [dv_more _ f k hkl (by rw [hg]; exact canon_long p hp k hk (by omega))]
      exact dv_canon p r hp hl f (k + 1) (by omega) (by omega)
/-- A varint is read back, whatever bytes follow. -/
theorem decV_leb (N : Nat) (h : N < 128 ^ 7) (r : List UInt8) : decV (leb 6 N ++ r) = (N, (leb 6 N).length) := by
  have hlen := leb_length 6 N
  have hc : canon (leb 6 N) := (leb_canon 6 _ hlen.2).1 (by rw [v7_leb 6 N h])
  have := dv_canon (leb 6 N) r hc hlen.2 7 0 rfl (by omega)
  rw [v7_leb 6 N h] at this
  exact this
/-- What is read is nothing, or a varint at the beginning. -/
theorem sv_ok (l : List UInt8) : ∀ (f k : Nat), k + f = 8 → 1 ≤ k → (sv l f k).2 = 0 ∨ (1 ≤ (sv l f k).2 ∧ (sv l f k).2 ≤ l.length ∧ leb 6 (sv l f k).1 = l.take (sv l f k).2 ∧ (sv l f k).1 < 128 ^ 7)
  | 0, _, _, _ => .inl rfl
  | f + 1, k, h, hk => by
    rw [sv]
    split
    · split
      · rename_i h1 h2
        refine .inr ⟨hk, h1, h2, ?_⟩
        have := v7_lt (l.take k)
        exact Nat.lt_of_lt_of_le this (Nat.pow_le_pow_right (by decide) (by rw [List.length_take]; omega))
      · exact sv_ok l f (k + 1) (by omega) (by omega)
    · exact .inl rfl
theorem decV_ok (l : List UInt8) : (decV l).2 = 0 ∨ (1 ≤ (decV l).2 ∧ (decV l).2 ≤ l.length ∧ leb 6 (decV l).1 = l.take (decV l).2 ∧ (decV l).1 < 128 ^ 7) := by
  rw [← sv_decV]; exact sv_ok l 7 1 rfl (by omega)
theorem drop_take_cons (l : List UInt8) (k t : Nat) (ht : t < k) (hk : k ≤ l.length) : (l.take k).drop t = l[t] :: (l.take k).drop (t + 1) := by
  rw [List.drop_eq_getElem_cons (by rw [List.length_take]; omega), List.getElem_take]

/-! ### Hexadecimal digits -/
def hexD (k : Nat) : UInt8 := UInt8.ofNat (if k < 10 then 48 + k else 87 + k)
/-- The sixteen digits in order. -/
def hexTab : ByteArray := ⟨#[48, 49, 50, 51, 52, 53, 54, 55, 56, 57, 97, 98, 99, 100, 101, 102]⟩
theorem hexTab_fin : ∀ q : Fin 16, hexTab.data[q.val]! = hexD q.val := by decide
theorem hexTab_at (q : Int) (h : q.toNat < hexTab.size) : hexTab[q.toNat] = hexD q.toNat := by
  have h16 : q.toNat < 16 := h
  have := hexTab_fin ⟨q.toNat, h16⟩
  rw [← this, getElem!_pos hexTab.data q.toNat h16]; rfl
def hex : List UInt8 → List UInt8
  | [] => []
  | b :: l => hexD (b.toNat / 16) :: hexD (b.toNat % 16) :: hex l
theorem hex_append : ∀ (l r : List UInt8), hex (l ++ r) = hex l ++ hex r
  | [], _ => rfl
  | b :: l, r => by simp [hex, hex_append l r]
theorem hex_length : ∀ l : List UInt8, (hex l).length = 2 * l.length
  | [] => rfl
  | b :: l => by simp [hex, hex_length l]; omega
/-- A digit's value; -1: no digit. -/
def nib (b : UInt8) : Int := if 48 ≤ b.toNat ∧ b.toNat ≤ 57 then (b.toNat : Int) - 48 else if 97 ≤ b.toNat ∧ b.toNat ≤ 102 then (b.toNat : Int) - 87 else -1
theorem nib_hexD_fin : ∀ k : Fin 16, nib (hexD k.val) = (k.val : Int) := by decide
theorem nib_hexD (k : Nat) (h : k < 16) : nib (hexD k) = (k : Int) := nib_hexD_fin ⟨k, h⟩
theorem nib_range (b : UInt8) : -1 ≤ nib b ∧ nib b < 16 := by
  unfold nib; split
  · omega
  · split <;> omega
theorem hexD_nib (b : UInt8) (h : 0 ≤ nib b) : hexD (nib b).toNat = b := by
  unfold nib at h ⊢
  unfold hexD
  split
  · rename_i h1
    rw [if_pos (by omega), show 48 + ((b.toNat : Int) - 48).toNat = b.toNat by omega]; simp
  · rename_i h1
    rw [if_neg h1] at h
    split
    · rename_i h2
      rw [if_neg (by omega), show 87 + ((b.toNat : Int) - 87).toNat = b.toNat by omega]; simp
    · rename_i h2
      rw [if_neg h2] at h; omega
theorem nib_none (b : UInt8) (h : ∀ k, k < 16 → hexD k ≠ b) : nib b = -1 := by
  by_cases h0 : 0 ≤ nib b
  · have hr := nib_range b
    exact absurd (hexD_nib b h0) (h _ (by omega))
  · have hr := nib_range b
    omega
/-- The string whose digits l are. -/
def unhex : List UInt8 → Option (List UInt8)
  | [] => some []
  | [_] => none
  | a :: b :: l => if nib a < 0 ∨ nib b < 0 then none else (unhex l).map (UInt8.ofNat (16 * nib a + nib b).toNat :: ·)
theorem unhex_odd : ∀ (l : List UInt8), l.length % 2 = 1 → unhex l = none
  | [], h => by simp at h
  | [_], _ => rfl
  | a :: b :: l, h => by
    rw [unhex, unhex_odd l (by simp at h; omega)]; simp
theorem drop_two (l : List UInt8) (i : Nat) (h : i + 1 < l.length) : l.drop i = l[i] :: l[i + 1] :: l.drop (i + 2) := by
  rw [List.drop_eq_getElem_cons (by omega), List.drop_eq_getElem_cons h]
theorem unhex_step (l : List UInt8) (i : Nat) (h : i + 1 < l.length) : unhex (l.drop i) = if nib l[i] < 0 ∨ nib l[i + 1] < 0 then none else (unhex (l.drop (i + 2))).map (UInt8.ofNat (16 * nib l[i] + nib l[i + 1]).toNat :: ·) := by
  rw [drop_two l i h, unhex]
theorem unhex_hex : ∀ l : List UInt8, unhex (hex l) = some l
  | [] => rfl
  | b :: l => by
    have hb := b.toNat_lt
    rw [hex, unhex, nib_hexD _ (by omega), nib_hexD _ (by omega), if_neg (by omega), unhex_hex l]
    rw [show (16 * ((b.toNat / 16 : Nat) : Int) + ((b.toNat % 16 : Nat) : Int)).toNat = b.toNat by omega]
    simp
end Go.Proofs.YtoiobaiiammehaaDoor.Num
