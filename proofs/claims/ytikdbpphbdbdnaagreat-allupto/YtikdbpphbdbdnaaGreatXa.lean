/- Of several texts, one behind the other. -/
import Derived.Test.YtikdbpphbdbdnaaGreatBb
import Derived.Test.YtikdbpphbdbdnaaGreatBa
import Derived.Deep.RegionHeld3
/- The program's board in memory: eleven blocks and the queue of what is due, by the plain state and what stands beside it. -/
namespace Go.Proofs.YtikdbpphbdbdnaaGreat
open Go.RowKit
set_option linter.unusedVariables false

/-- What is due: the watch (or the timer), and when. -/
structure Du where
  wt : Bool
  at_ : Int

/-- What the program keeps in another way than the document's words. -/
structure Ext where
  now : Int
  next : Int
  fed : Int
  due : List Du
  ph : Int
  op : Int
  addr : Int
  wait : Bool
  early : Bool
  inp : Int

/-- Where it lies. -/
structure XL where
  nb : Nat
  g : Nat
  bs : Nat
  ck : Nat
  bk : Nat
  tm : Nat
  wa : Nat
  po : Nat
  up : Nat
  re : Nat
  me : Nat
  q : Option Nat
  cap : Nat

/-- The queue's header. -/
def qval (l : XL) (n : Nat) : Value := match l.q with
  | some h => .slice (some ⟨h, 0, none⟩) n l.cap
  | none => .slice none 0 0

def duTurn (d : Du) : Int := if d.wt = true then 1 else 0
def duWhat (l : XL) (d : Du) : Value := if d.wt = true then .iface 119 (.pointer (some ⟨l.wa, 0, none⟩)) else .iface 116 (.pointer (some ⟨l.tm, 0, none⟩))
def duCell (l : XL) (d : Du) : List Value := [duWhat l d, .int .i64 d.at_, .int .i64 (duTurn d)]
def duCells (l : XL) (ds : List Du) : List Value := ds.flatMap (duCell l)

def XL.blk (l : XL) : Nat → Nat
  | 0 => l.nb
  | 1 => l.g
  | 2 => l.bs
  | 3 => l.ck
  | 4 => l.bk
  | 5 => l.tm
  | 6 => l.wa
  | 7 => l.po
  | 8 => l.up
  | 9 => l.re
  | _ => l.me

def xlen : Nat → Nat
  | 0 => 1
  | 1 => 20
  | 2 => 21
  | 3 => 2
  | 4 => 131
  | 5 => 4
  | 6 => 6
  | 7 => 2
  | 8 => 3
  | 9 => 2
  | _ => 128

def encnb (l : XL) (st : St) (ex : Ext) : Nat → Value
  | 0 => .pointer (some ⟨l.g, 0, none⟩)
  | _ => .bool false

def encg (l : XL) (st : St) (ex : Ext) : Nat → Value
  | 0 => .int .u8 (st.a)
  | 1 => .int .u8 (st.x)
  | 2 => .int .u8 (st.pc)
  | 3 => .bool (st.zero)
  | 4 => .bool (st.carry)
  | 5 => .int .i64 (ex.ph)
  | 6 => .int .u8 (ex.op)
  | 7 => .int .u8 (ex.addr)
  | 8 => .bool (ex.wait)
  | 9 => .slice (some ⟨l.bs, 0, none⟩) 7 7
  | 10 => .pointer (some ⟨l.ck, 0, none⟩)
  | 11 => .pointer (some ⟨l.bk, 0, none⟩)
  | 12 => .pointer (some ⟨l.me, 0, none⟩)
  | 13 => .pointer (some ⟨l.tm, 0, none⟩)
  | 14 => .pointer (some ⟨l.wa, 0, none⟩)
  | 15 => .pointer (some ⟨l.po, 0, none⟩)
  | 16 => .pointer (some ⟨l.up, 0, none⟩)
  | 17 => .pointer (some ⟨l.re, 0, none⟩)
  | 18 => .bool (st.down)
  | 19 => .int .i64 (st.left)
  | _ => .bool false

def encbs (l : XL) (st : St) (ex : Ext) : Nat → Value
  | 0 => .int .u8 0
  | 1 => .int .u8 127
  | 2 => .iface 114 (.pointer (some ⟨l.me, 0, none⟩))
  | 3 => .int .u8 128
  | 4 => .int .u8 191
  | 5 => .iface 143 (.agg #[.pointer (some ⟨l.bk, 0, none⟩)])
  | 6 => .int .u8 192
  | 7 => .int .u8 194
  | 8 => .iface 116 (.pointer (some ⟨l.tm, 0, none⟩))
  | 9 => .int .u8 195
  | 10 => .int .u8 196
  | 11 => .iface 119 (.pointer (some ⟨l.wa, 0, none⟩))
  | 12 => .int .u8 197
  | 13 => .int .u8 198
  | 14 => .iface 122 (.pointer (some ⟨l.po, 0, none⟩))
  | 15 => .int .u8 199
  | 16 => .int .u8 201
  | 17 => .iface 125 (.pointer (some ⟨l.up, 0, none⟩))
  | 18 => .int .u8 202
  | 19 => .int .u8 203
  | 20 => .iface 128 (.pointer (some ⟨l.re, 0, none⟩))
  | _ => .bool false

def encck (l : XL) (st : St) (ex : Ext) : Nat → Value
  | 0 => .int .i64 (ex.now)
  | 1 => qval l ex.due.length
  | _ => .bool false

def encbk (l : XL) (st : St) (ex : Ext) : Nat → Value
  | 128 => .int .i64 (st.s0)
  | 129 => .int .i64 (st.s1)
  | 130 => .int .i64 (st.bank)
  | i => .int .u8 (if i < 64 then st.b0 i else st.b1 (i - 64))

def enctm (l : XL) (st : St) (ex : Ext) : Nat → Value
  | 0 => .pointer (some ⟨l.ck, 0, none⟩)
  | 1 => .int .u8 (st.period)
  | 2 => .int .i64 (ex.next)
  | 3 => .bool (st.flag)
  | _ => .bool false

def encwa (l : XL) (st : St) (ex : Ext) : Nat → Value
  | 0 => .pointer (some ⟨l.ck, 0, none⟩)
  | 1 => .int .i64 (ex.fed)
  | 2 => .int .u8 (st.window)
  | 3 => .bool (st.windowed)
  | 4 => .bool (st.key)
  | 5 => .bool (ex.early)
  | _ => .bool false

def encpo (l : XL) (st : St) (ex : Ext) : Nat → Value
  | 0 => .int .u8 (st.out)
  | 1 => .int .u8 (ex.inp)
  | _ => .bool false

def encup (l : XL) (st : St) (ex : Ext) : Nat → Value
  | 0 => .pointer (some ⟨l.bk, 0, none⟩)
  | 1 => .bool (st.opn)
  | 2 => .int .u8 (st.place)
  | _ => .bool false

def encre (l : XL) (st : St) (ex : Ext) : Nat → Value
  | 0 => .int .i64 (st.cause)
  | 1 => .pointer (some ⟨l.bk, 0, none⟩)
  | _ => .bool false

def encme (l : XL) (st : St) (ex : Ext) : Nat → Value
  | i => .int .u8 (st.mem i)

def xenc (l : XL) (st : St) (ex : Ext) : Nat → Nat → Value
  | 0 => encnb l st ex
  | 1 => encg l st ex
  | 2 => encbs l st ex
  | 3 => encck l st ex
  | 4 => encbk l st ex
  | 5 => enctm l st ex
  | 6 => encwa l st ex
  | 7 => encpo l st ex
  | 8 => encup l st ex
  | 9 => encre l st ex
  | _ => encme l st ex

/-- The program's board lies there. -/
structure XRep (l : XL) (st : St) (ex : Ext) (w : World) : Prop where
  all : ∀ j, j < 11 → Raw (l.blk j) (xlen j) (xenc l st ex j) w
  inj : ∀ i j, i < 11 → j < 11 → l.blk i = l.blk j → i = j
  qu : w.ownsRow 0 178 3 (qval l ex.due.length) ex.due.length (duCells l ex.due)
  qa : ∀ h, l.q = some h → ∀ j, j < 11 → l.blk j ≠ h

/-- Its blocks. -/
def XL.own (l : XL) (k : Nat) : Prop := (∃ j, j < 11 ∧ k = l.blk j) ∨ l.q = some k

theorem eleven {j : Nat} (hj : j < 11) : j = 0 ∨ j = 1 ∨ j = 2 ∨ j = 3 ∨ j = 4 ∨ j = 5 ∨ j = 6 ∨ j = 7 ∨ j = 8 ∨ j = 9 ∨ j = 10 := by omega

theorem xlen_pos (j : Nat) : 0 < xlen j := by unfold xlen; split <;> omega

theorem qval_block (l : XL) (n : Nat) : (qval l n).ownBlock = l.q := by
  unfold qval
  cases l.q <;> rfl

theorem XRep.as {l : XL} {st st' : St} {ex ex' : Ext} {w : World} (h : XRep l st ex w) (e : st = st') (e' : ex = ex') : XRep l st' ex' w := e ▸ e' ▸ h

theorem row_lt {w : World} {base : Nat} {e : TypeId} {size : Nat} {v : Value} {n : Nat} {xs : List Value} (h : w.ownsRow base e size v n xs) {k : Nat} (hk : v.ownBlock = some k) : base ≤ k ∧ k < w.heap.size := by
  rcases h.2 with ⟨hv, _⟩ | ⟨g1, cap1, cur1, hv, hb, hg1, _⟩
  · rw [hv] at hk; cases hk
  · rw [hv] at hk
    cases hk
    exact ⟨hb, (Array.getElem?_eq_some_iff.1 hg1).1⟩

theorem row_same {w w' : World} {base : Nat} {e : TypeId} {size : Nat} {v : Value} {n : Nat} {xs : List Value} (h : w.ownsRow base e size v n xs) (hk : ∀ k, v.ownBlock = some k → w'.heap[k]? = w.heap[k]?) : w'.ownsRow base e size v n xs := by
  refine ⟨h.1, ?_⟩
  rcases h.2 with h2 | ⟨g, cap, cur, hv, hb, hg, h3⟩
  · exact Or.inl h2
  · exact Or.inr ⟨g, cap, cur, hv, hb, by rw [hk g (by rw [hv]; rfl)]; exact hg, h3⟩

theorem XRep.lt {l : XL} {st : St} {ex : Ext} {w : World} (h : XRep l st ex w) {k : Nat} (hk : l.own k) : k < w.heap.size := by
  rcases hk with ⟨j, hj, rfl⟩ | hk
  · exact (h.all j hj).lt (xlen_pos j)
  · exact (row_lt h.qu (by rw [qval_block]; exact hk)).2

theorem XRep.fresh {l : XL} {st : St} {ex : Ext} {w : World} (h : XRep l st ex w) (n : Nat) (hn : w.heap.size ≤ n) : ¬ l.own n := fun x => by have := h.lt x; omega

theorem XRep.kept {S : Nat → Prop} {l : XL} {st : St} {ex : Ext} {w w' : World} (h : XRep l st ex w) (hk : Kept S w w') (hS : ∀ k, l.own k → ¬ S k) : XRep l st ex w' :=
  ⟨fun j hj => (h.all j hj).kept hk (h.lt (Or.inl ⟨j, hj, rfl⟩)) (hS _ (Or.inl ⟨j, hj, rfl⟩)), h.inj,
    row_same h.qu (fun k hk2 => by rw [qval_block] at hk2; exact hk.block k (h.lt (Or.inr hk2)) (hS k (Or.inr hk2))), h.qa⟩

theorem XRep.alloc {l : XL} {st : St} {ex : Ext} {w : World} (h : XRep l st ex w) (o : Obj) : XRep l st ex (w.alloc o) := h.kept (S := fun _ => False) ((Kept.refl _ _).alloc o) (fun _ _ x => x)
theorem XRep.drewN {l : XL} {st : St} {ex : Ext} {w : World} (h : XRep l st ex w) (n : Nat) : XRep l st ex (w.drewN n) := h.kept (S := fun _ => False) ((Kept.refl _ _).drewN n) (fun _ _ x => x)
theorem XRep.drew {l : XL} {st : St} {ex : Ext} {w : World} (h : XRep l st ex w) : XRep l st ex w.drew := h.kept (S := fun _ => False) ((Kept.refl _ _).drew) (fun _ _ x => x)
theorem XRep.below {l : XL} {st : St} {ex : Ext} {w w' : World} (h : XRep l st ex w) (hb : Below w.heap.size w w') : XRep l st ex w' := h.kept (S := fun _ => False) (Kept.below hb) (fun _ _ x => x)
theorem XRep.other {l : XL} {st : St} {ex : Ext} {w : World} (h : XRep l st ex w) {b j : Nat} (hb : ¬ l.own b) (v : Value) : XRep l st ex (w.setCell ⟨b, j, none⟩ v) := h.kept (S := fun k => k = b) ((Kept.refl (fun k => k = b) w).setCell (b := b) (Or.inl rfl) v) (fun k hk x => hb (x ▸ hk))

/-- One cell of block J has turned. -/
theorem XRep.put {l : XL} {st st' : St} {ex ex' : Ext} {w : World} (h : XRep l st ex w) (J K : Nat) (hJ : J < 11) (hK : K < xlen J) (v : Value) (he : ∀ i, i < xlen J → xenc l st' ex' J i = if i = K then v else xenc l st ex J i) (ho : ∀ j, j < 11 → j ≠ J → xenc l st' ex' j = xenc l st ex j) (hd : ex'.due = ex.due) : XRep l st' ex' (w.setCell ⟨l.blk J, K, none⟩ v) := by
  refine ⟨fun j hj => ?_, h.inj, ?_, h.qa⟩
  · by_cases e : j = J
    · subst e
      exact (h.all j hj).set hK v he
    · rw [ho j hj e]
      exact (h.all j hj).other (fun x => e (h.inj J j hJ hj x).symm) v
  · rw [hd]
    refine row_same h.qu (fun k hk => ?_)
    rw [qval_block] at hk
    exact Below.heap_setCell _ _ _ _ (fun x => h.qa k hk J hJ x.symm)

theorem Kept.nb {l : XL} {a w : World} (h : Kept l.own a w) (j : Nat) (u : Value) : Kept l.own a (w.setCell ⟨l.nb, j, none⟩ u) := h.setCell (Or.inl (Or.inl ⟨0, by omega, rfl⟩)) u
theorem own_nb (l : XL) : l.own l.nb := Or.inl ⟨0, by omega, rfl⟩
theorem Kept.g {l : XL} {a w : World} (h : Kept l.own a w) (j : Nat) (u : Value) : Kept l.own a (w.setCell ⟨l.g, j, none⟩ u) := h.setCell (Or.inl (Or.inl ⟨1, by omega, rfl⟩)) u
theorem own_g (l : XL) : l.own l.g := Or.inl ⟨1, by omega, rfl⟩
theorem Kept.bs {l : XL} {a w : World} (h : Kept l.own a w) (j : Nat) (u : Value) : Kept l.own a (w.setCell ⟨l.bs, j, none⟩ u) := h.setCell (Or.inl (Or.inl ⟨2, by omega, rfl⟩)) u
theorem own_bs (l : XL) : l.own l.bs := Or.inl ⟨2, by omega, rfl⟩
theorem Kept.ck {l : XL} {a w : World} (h : Kept l.own a w) (j : Nat) (u : Value) : Kept l.own a (w.setCell ⟨l.ck, j, none⟩ u) := h.setCell (Or.inl (Or.inl ⟨3, by omega, rfl⟩)) u
theorem own_ck (l : XL) : l.own l.ck := Or.inl ⟨3, by omega, rfl⟩
theorem Kept.bk {l : XL} {a w : World} (h : Kept l.own a w) (j : Nat) (u : Value) : Kept l.own a (w.setCell ⟨l.bk, j, none⟩ u) := h.setCell (Or.inl (Or.inl ⟨4, by omega, rfl⟩)) u
theorem own_bk (l : XL) : l.own l.bk := Or.inl ⟨4, by omega, rfl⟩
theorem Kept.tm {l : XL} {a w : World} (h : Kept l.own a w) (j : Nat) (u : Value) : Kept l.own a (w.setCell ⟨l.tm, j, none⟩ u) := h.setCell (Or.inl (Or.inl ⟨5, by omega, rfl⟩)) u
theorem own_tm (l : XL) : l.own l.tm := Or.inl ⟨5, by omega, rfl⟩
theorem Kept.wa {l : XL} {a w : World} (h : Kept l.own a w) (j : Nat) (u : Value) : Kept l.own a (w.setCell ⟨l.wa, j, none⟩ u) := h.setCell (Or.inl (Or.inl ⟨6, by omega, rfl⟩)) u
theorem own_wa (l : XL) : l.own l.wa := Or.inl ⟨6, by omega, rfl⟩
theorem Kept.po {l : XL} {a w : World} (h : Kept l.own a w) (j : Nat) (u : Value) : Kept l.own a (w.setCell ⟨l.po, j, none⟩ u) := h.setCell (Or.inl (Or.inl ⟨7, by omega, rfl⟩)) u
theorem own_po (l : XL) : l.own l.po := Or.inl ⟨7, by omega, rfl⟩
theorem Kept.up {l : XL} {a w : World} (h : Kept l.own a w) (j : Nat) (u : Value) : Kept l.own a (w.setCell ⟨l.up, j, none⟩ u) := h.setCell (Or.inl (Or.inl ⟨8, by omega, rfl⟩)) u
theorem own_up (l : XL) : l.own l.up := Or.inl ⟨8, by omega, rfl⟩
theorem Kept.re {l : XL} {a w : World} (h : Kept l.own a w) (j : Nat) (u : Value) : Kept l.own a (w.setCell ⟨l.re, j, none⟩ u) := h.setCell (Or.inl (Or.inl ⟨9, by omega, rfl⟩)) u
theorem own_re (l : XL) : l.own l.re := Or.inl ⟨9, by omega, rfl⟩
theorem Kept.me {l : XL} {a w : World} (h : Kept l.own a w) (j : Nat) (u : Value) : Kept l.own a (w.setCell ⟨l.me, j, none⟩ u) := h.setCell (Or.inl (Or.inl ⟨10, by omega, rfl⟩)) u
theorem own_me (l : XL) : l.own l.me := Or.inl ⟨10, by omega, rfl⟩

theorem XRep.c_nb0 {l : XL} {st : St} {ex : Ext} {w : World} (h : XRep l st ex w) : w.cell? ⟨l.nb, 0, none⟩ = some (.pointer (some ⟨l.g, 0, none⟩)) := (h.all 0 (by omega) 0 (by decide)).1
theorem XRep.c_bus {l : XL} {st : St} {ex : Ext} {w : World} (h : XRep l st ex w) : w.cell? ⟨l.g, 9, none⟩ = some (.slice (some ⟨l.bs, 0, none⟩) 7 7) := (h.all 1 (by omega) 9 (by decide)).1
theorem XRep.c_ck {l : XL} {st : St} {ex : Ext} {w : World} (h : XRep l st ex w) : w.cell? ⟨l.g, 10, none⟩ = some (.pointer (some ⟨l.ck, 0, none⟩)) := (h.all 1 (by omega) 10 (by decide)).1
theorem XRep.c_bk {l : XL} {st : St} {ex : Ext} {w : World} (h : XRep l st ex w) : w.cell? ⟨l.g, 11, none⟩ = some (.pointer (some ⟨l.bk, 0, none⟩)) := (h.all 1 (by omega) 11 (by decide)).1
theorem XRep.c_me {l : XL} {st : St} {ex : Ext} {w : World} (h : XRep l st ex w) : w.cell? ⟨l.g, 12, none⟩ = some (.pointer (some ⟨l.me, 0, none⟩)) := (h.all 1 (by omega) 12 (by decide)).1
theorem XRep.c_tm {l : XL} {st : St} {ex : Ext} {w : World} (h : XRep l st ex w) : w.cell? ⟨l.g, 13, none⟩ = some (.pointer (some ⟨l.tm, 0, none⟩)) := (h.all 1 (by omega) 13 (by decide)).1
theorem XRep.c_wa {l : XL} {st : St} {ex : Ext} {w : World} (h : XRep l st ex w) : w.cell? ⟨l.g, 14, none⟩ = some (.pointer (some ⟨l.wa, 0, none⟩)) := (h.all 1 (by omega) 14 (by decide)).1
theorem XRep.c_po {l : XL} {st : St} {ex : Ext} {w : World} (h : XRep l st ex w) : w.cell? ⟨l.g, 15, none⟩ = some (.pointer (some ⟨l.po, 0, none⟩)) := (h.all 1 (by omega) 15 (by decide)).1
theorem XRep.c_up {l : XL} {st : St} {ex : Ext} {w : World} (h : XRep l st ex w) : w.cell? ⟨l.g, 16, none⟩ = some (.pointer (some ⟨l.up, 0, none⟩)) := (h.all 1 (by omega) 16 (by decide)).1
theorem XRep.c_re {l : XL} {st : St} {ex : Ext} {w : World} (h : XRep l st ex w) : w.cell? ⟨l.g, 17, none⟩ = some (.pointer (some ⟨l.re, 0, none⟩)) := (h.all 1 (by omega) 17 (by decide)).1
theorem XRep.c_que {l : XL} {st : St} {ex : Ext} {w : World} (h : XRep l st ex w) : w.cell? ⟨l.ck, 1, none⟩ = some (qval l ex.due.length) := (h.all 3 (by omega) 1 (by decide)).1
theorem XRep.c_tck {l : XL} {st : St} {ex : Ext} {w : World} (h : XRep l st ex w) : w.cell? ⟨l.tm, 0, none⟩ = some (.pointer (some ⟨l.ck, 0, none⟩)) := (h.all 5 (by omega) 0 (by decide)).1
theorem XRep.c_wck {l : XL} {st : St} {ex : Ext} {w : World} (h : XRep l st ex w) : w.cell? ⟨l.wa, 0, none⟩ = some (.pointer (some ⟨l.ck, 0, none⟩)) := (h.all 6 (by omega) 0 (by decide)).1
theorem XRep.c_ubk {l : XL} {st : St} {ex : Ext} {w : World} (h : XRep l st ex w) : w.cell? ⟨l.up, 0, none⟩ = some (.pointer (some ⟨l.bk, 0, none⟩)) := (h.all 8 (by omega) 0 (by decide)).1
theorem XRep.c_rbk {l : XL} {st : St} {ex : Ext} {w : World} (h : XRep l st ex w) : w.cell? ⟨l.re, 1, none⟩ = some (.pointer (some ⟨l.bk, 0, none⟩)) := (h.all 9 (by omega) 1 (by decide)).1
theorem XRep.f_que {l : XL} {st : St} {ex : Ext} {w : World} (h : XRep l st ex w) : w.frozen? ⟨l.ck, 1, none⟩ = false := (h.all 3 (by omega) 1 (by decide)).2
theorem XRep.c_bus0 {l : XL} {st : St} {ex : Ext} {w : World} (h : XRep l st ex w) : w.cell? ⟨l.bs, 0, none⟩ = some (.int .u8 0) := (h.all 2 (by omega) 0 (by decide)).1
theorem XRep.c_bus1 {l : XL} {st : St} {ex : Ext} {w : World} (h : XRep l st ex w) : w.cell? ⟨l.bs, 1, none⟩ = some (.int .u8 127) := (h.all 2 (by omega) 1 (by decide)).1
theorem XRep.c_bus2 {l : XL} {st : St} {ex : Ext} {w : World} (h : XRep l st ex w) : w.cell? ⟨l.bs, 2, none⟩ = some (.iface 114 (.pointer (some ⟨l.me, 0, none⟩))) := (h.all 2 (by omega) 2 (by decide)).1
theorem XRep.c_bus3 {l : XL} {st : St} {ex : Ext} {w : World} (h : XRep l st ex w) : w.cell? ⟨l.bs, 3, none⟩ = some (.int .u8 128) := (h.all 2 (by omega) 3 (by decide)).1
theorem XRep.c_bus4 {l : XL} {st : St} {ex : Ext} {w : World} (h : XRep l st ex w) : w.cell? ⟨l.bs, 4, none⟩ = some (.int .u8 191) := (h.all 2 (by omega) 4 (by decide)).1
theorem XRep.c_bus5 {l : XL} {st : St} {ex : Ext} {w : World} (h : XRep l st ex w) : w.cell? ⟨l.bs, 5, none⟩ = some (.iface 143 (.agg #[.pointer (some ⟨l.bk, 0, none⟩)])) := (h.all 2 (by omega) 5 (by decide)).1
theorem XRep.c_bus6 {l : XL} {st : St} {ex : Ext} {w : World} (h : XRep l st ex w) : w.cell? ⟨l.bs, 6, none⟩ = some (.int .u8 192) := (h.all 2 (by omega) 6 (by decide)).1
theorem XRep.c_bus7 {l : XL} {st : St} {ex : Ext} {w : World} (h : XRep l st ex w) : w.cell? ⟨l.bs, 7, none⟩ = some (.int .u8 194) := (h.all 2 (by omega) 7 (by decide)).1
theorem XRep.c_bus8 {l : XL} {st : St} {ex : Ext} {w : World} (h : XRep l st ex w) : w.cell? ⟨l.bs, 8, none⟩ = some (.iface 116 (.pointer (some ⟨l.tm, 0, none⟩))) := (h.all 2 (by omega) 8 (by decide)).1
theorem XRep.c_bus9 {l : XL} {st : St} {ex : Ext} {w : World} (h : XRep l st ex w) : w.cell? ⟨l.bs, 9, none⟩ = some (.int .u8 195) := (h.all 2 (by omega) 9 (by decide)).1
theorem XRep.c_bus10 {l : XL} {st : St} {ex : Ext} {w : World} (h : XRep l st ex w) : w.cell? ⟨l.bs, 10, none⟩ = some (.int .u8 196) := (h.all 2 (by omega) 10 (by decide)).1
theorem XRep.c_bus11 {l : XL} {st : St} {ex : Ext} {w : World} (h : XRep l st ex w) : w.cell? ⟨l.bs, 11, none⟩ = some (.iface 119 (.pointer (some ⟨l.wa, 0, none⟩))) := (h.all 2 (by omega) 11 (by decide)).1
theorem XRep.c_bus12 {l : XL} {st : St} {ex : Ext} {w : World} (h : XRep l st ex w) : w.cell? ⟨l.bs, 12, none⟩ = some (.int .u8 197) := (h.all 2 (by omega) 12 (by decide)).1
theorem XRep.c_bus13 {l : XL} {st : St} {ex : Ext} {w : World} (h : XRep l st ex w) : w.cell? ⟨l.bs, 13, none⟩ = some (.int .u8 198) := (h.all 2 (by omega) 13 (by decide)).1
theorem XRep.c_bus14 {l : XL} {st : St} {ex : Ext} {w : World} (h : XRep l st ex w) : w.cell? ⟨l.bs, 14, none⟩ = some (.iface 122 (.pointer (some ⟨l.po, 0, none⟩))) := (h.all 2 (by omega) 14 (by decide)).1
theorem XRep.c_bus15 {l : XL} {st : St} {ex : Ext} {w : World} (h : XRep l st ex w) : w.cell? ⟨l.bs, 15, none⟩ = some (.int .u8 199) := (h.all 2 (by omega) 15 (by decide)).1
theorem XRep.c_bus16 {l : XL} {st : St} {ex : Ext} {w : World} (h : XRep l st ex w) : w.cell? ⟨l.bs, 16, none⟩ = some (.int .u8 201) := (h.all 2 (by omega) 16 (by decide)).1
theorem XRep.c_bus17 {l : XL} {st : St} {ex : Ext} {w : World} (h : XRep l st ex w) : w.cell? ⟨l.bs, 17, none⟩ = some (.iface 125 (.pointer (some ⟨l.up, 0, none⟩))) := (h.all 2 (by omega) 17 (by decide)).1
theorem XRep.c_bus18 {l : XL} {st : St} {ex : Ext} {w : World} (h : XRep l st ex w) : w.cell? ⟨l.bs, 18, none⟩ = some (.int .u8 202) := (h.all 2 (by omega) 18 (by decide)).1
theorem XRep.c_bus19 {l : XL} {st : St} {ex : Ext} {w : World} (h : XRep l st ex w) : w.cell? ⟨l.bs, 19, none⟩ = some (.int .u8 203) := (h.all 2 (by omega) 19 (by decide)).1
theorem XRep.c_bus20 {l : XL} {st : St} {ex : Ext} {w : World} (h : XRep l st ex w) : w.cell? ⟨l.bs, 20, none⟩ = some (.iface 128 (.pointer (some ⟨l.re, 0, none⟩))) := (h.all 2 (by omega) 20 (by decide)).1

theorem XRep.c_a {l : XL} {st : St} {ex : Ext} {w : World} (h : XRep l st ex w) : w.cell? ⟨l.g, 0, none⟩ = some (.int .u8 (st.a)) := (h.all 1 (by omega) 0 (by decide)).1
theorem XRep.f_a {l : XL} {st : St} {ex : Ext} {w : World} (h : XRep l st ex w) : w.frozen? ⟨l.g, 0, none⟩ = false := (h.all 1 (by omega) 0 (by decide)).2
theorem XRep.set_a {l : XL} {st : St} {ex : Ext} {w : World} (h : XRep l st ex w) (v : Int) : XRep l { st with a := v } ex (w.setCell ⟨l.g, 0, none⟩ (.int .u8 (v))) :=
  h.put 1 0 (by omega) (by decide) _ (fun i hi => by
    by_cases e : i = 0
    · subst e; rfl
    · rw [if_neg e]; show encg l ({ st with a := v }) (ex) i = encg l st ex i; unfold encg; split <;> first | rfl | exact absurd rfl e) (fun j hj hne => by
    rcases eleven hj with rfl | rfl | rfl | rfl | rfl | rfl | rfl | rfl | rfl | rfl | rfl <;> first | rfl | exact absurd rfl hne) rfl

theorem XRep.c_x {l : XL} {st : St} {ex : Ext} {w : World} (h : XRep l st ex w) : w.cell? ⟨l.g, 1, none⟩ = some (.int .u8 (st.x)) := (h.all 1 (by omega) 1 (by decide)).1
theorem XRep.f_x {l : XL} {st : St} {ex : Ext} {w : World} (h : XRep l st ex w) : w.frozen? ⟨l.g, 1, none⟩ = false := (h.all 1 (by omega) 1 (by decide)).2
theorem XRep.set_x {l : XL} {st : St} {ex : Ext} {w : World} (h : XRep l st ex w) (v : Int) : XRep l { st with x := v } ex (w.setCell ⟨l.g, 1, none⟩ (.int .u8 (v))) :=
  h.put 1 1 (by omega) (by decide) _ (fun i hi => by
    by_cases e : i = 1
    · subst e; rfl
    · rw [if_neg e]; show encg l ({ st with x := v }) (ex) i = encg l st ex i; unfold encg; split <;> first | rfl | exact absurd rfl e) (fun j hj hne => by
    rcases eleven hj with rfl | rfl | rfl | rfl | rfl | rfl | rfl | rfl | rfl | rfl | rfl <;> first | rfl | exact absurd rfl hne) rfl

theorem XRep.c_pc {l : XL} {st : St} {ex : Ext} {w : World} (h : XRep l st ex w) : w.cell? ⟨l.g, 2, none⟩ = some (.int .u8 (st.pc)) := (h.all 1 (by omega) 2 (by decide)).1
theorem XRep.f_pc {l : XL} {st : St} {ex : Ext} {w : World} (h : XRep l st ex w) : w.frozen? ⟨l.g, 2, none⟩ = false := (h.all 1 (by omega) 2 (by decide)).2
theorem XRep.set_pc {l : XL} {st : St} {ex : Ext} {w : World} (h : XRep l st ex w) (v : Int) : XRep l { st with pc := v } ex (w.setCell ⟨l.g, 2, none⟩ (.int .u8 (v))) :=
  h.put 1 2 (by omega) (by decide) _ (fun i hi => by
    by_cases e : i = 2
    · subst e; rfl
    · rw [if_neg e]; show encg l ({ st with pc := v }) (ex) i = encg l st ex i; unfold encg; split <;> first | rfl | exact absurd rfl e) (fun j hj hne => by
    rcases eleven hj with rfl | rfl | rfl | rfl | rfl | rfl | rfl | rfl | rfl | rfl | rfl <;> first | rfl | exact absurd rfl hne) rfl

theorem XRep.c_zero {l : XL} {st : St} {ex : Ext} {w : World} (h : XRep l st ex w) : w.cell? ⟨l.g, 3, none⟩ = some (.bool (st.zero)) := (h.all 1 (by omega) 3 (by decide)).1
theorem XRep.f_zero {l : XL} {st : St} {ex : Ext} {w : World} (h : XRep l st ex w) : w.frozen? ⟨l.g, 3, none⟩ = false := (h.all 1 (by omega) 3 (by decide)).2
theorem XRep.set_zero {l : XL} {st : St} {ex : Ext} {w : World} (h : XRep l st ex w) (v : Bool) : XRep l { st with zero := v } ex (w.setCell ⟨l.g, 3, none⟩ (.bool (v))) :=
  h.put 1 3 (by omega) (by decide) _ (fun i hi => by
    by_cases e : i = 3
    · subst e; rfl
    · rw [if_neg e]; show encg l ({ st with zero := v }) (ex) i = encg l st ex i; unfold encg; split <;> first | rfl | exact absurd rfl e) (fun j hj hne => by
    rcases eleven hj with rfl | rfl | rfl | rfl | rfl | rfl | rfl | rfl | rfl | rfl | rfl <;> first | rfl | exact absurd rfl hne) rfl

theorem XRep.c_carry {l : XL} {st : St} {ex : Ext} {w : World} (h : XRep l st ex w) : w.cell? ⟨l.g, 4, none⟩ = some (.bool (st.carry)) := (h.all 1 (by omega) 4 (by decide)).1
theorem XRep.f_carry {l : XL} {st : St} {ex : Ext} {w : World} (h : XRep l st ex w) : w.frozen? ⟨l.g, 4, none⟩ = false := (h.all 1 (by omega) 4 (by decide)).2
theorem XRep.set_carry {l : XL} {st : St} {ex : Ext} {w : World} (h : XRep l st ex w) (v : Bool) : XRep l { st with carry := v } ex (w.setCell ⟨l.g, 4, none⟩ (.bool (v))) :=
  h.put 1 4 (by omega) (by decide) _ (fun i hi => by
    by_cases e : i = 4
    · subst e; rfl
    · rw [if_neg e]; show encg l ({ st with carry := v }) (ex) i = encg l st ex i; unfold encg; split <;> first | rfl | exact absurd rfl e) (fun j hj hne => by
    rcases eleven hj with rfl | rfl | rfl | rfl | rfl | rfl | rfl | rfl | rfl | rfl | rfl <;> first | rfl | exact absurd rfl hne) rfl

theorem XRep.c_ph {l : XL} {st : St} {ex : Ext} {w : World} (h : XRep l st ex w) : w.cell? ⟨l.g, 5, none⟩ = some (.int .i64 (ex.ph)) := (h.all 1 (by omega) 5 (by decide)).1
theorem XRep.f_ph {l : XL} {st : St} {ex : Ext} {w : World} (h : XRep l st ex w) : w.frozen? ⟨l.g, 5, none⟩ = false := (h.all 1 (by omega) 5 (by decide)).2
theorem XRep.set_ph {l : XL} {st : St} {ex : Ext} {w : World} (h : XRep l st ex w) (v : Int) : XRep l st { ex with ph := v } (w.setCell ⟨l.g, 5, none⟩ (.int .i64 (v))) :=
  h.put 1 5 (by omega) (by decide) _ (fun i hi => by
    by_cases e : i = 5
    · subst e; rfl
    · rw [if_neg e]; show encg l (st) ({ ex with ph := v }) i = encg l st ex i; unfold encg; split <;> first | rfl | exact absurd rfl e) (fun j hj hne => by
    rcases eleven hj with rfl | rfl | rfl | rfl | rfl | rfl | rfl | rfl | rfl | rfl | rfl <;> first | rfl | exact absurd rfl hne) rfl

theorem XRep.c_op {l : XL} {st : St} {ex : Ext} {w : World} (h : XRep l st ex w) : w.cell? ⟨l.g, 6, none⟩ = some (.int .u8 (ex.op)) := (h.all 1 (by omega) 6 (by decide)).1
theorem XRep.f_op {l : XL} {st : St} {ex : Ext} {w : World} (h : XRep l st ex w) : w.frozen? ⟨l.g, 6, none⟩ = false := (h.all 1 (by omega) 6 (by decide)).2
theorem XRep.set_op {l : XL} {st : St} {ex : Ext} {w : World} (h : XRep l st ex w) (v : Int) : XRep l st { ex with op := v } (w.setCell ⟨l.g, 6, none⟩ (.int .u8 (v))) :=
  h.put 1 6 (by omega) (by decide) _ (fun i hi => by
    by_cases e : i = 6
    · subst e; rfl
    · rw [if_neg e]; show encg l (st) ({ ex with op := v }) i = encg l st ex i; unfold encg; split <;> first | rfl | exact absurd rfl e) (fun j hj hne => by
    rcases eleven hj with rfl | rfl | rfl | rfl | rfl | rfl | rfl | rfl | rfl | rfl | rfl <;> first | rfl | exact absurd rfl hne) rfl

theorem XRep.c_addr {l : XL} {st : St} {ex : Ext} {w : World} (h : XRep l st ex w) : w.cell? ⟨l.g, 7, none⟩ = some (.int .u8 (ex.addr)) := (h.all 1 (by omega) 7 (by decide)).1
theorem XRep.f_addr {l : XL} {st : St} {ex : Ext} {w : World} (h : XRep l st ex w) : w.frozen? ⟨l.g, 7, none⟩ = false := (h.all 1 (by omega) 7 (by decide)).2
theorem XRep.set_addr {l : XL} {st : St} {ex : Ext} {w : World} (h : XRep l st ex w) (v : Int) : XRep l st { ex with addr := v } (w.setCell ⟨l.g, 7, none⟩ (.int .u8 (v))) :=
  h.put 1 7 (by omega) (by decide) _ (fun i hi => by
    by_cases e : i = 7
    · subst e; rfl
    · rw [if_neg e]; show encg l (st) ({ ex with addr := v }) i = encg l st ex i; unfold encg; split <;> first | rfl | exact absurd rfl e) (fun j hj hne => by
    rcases eleven hj with rfl | rfl | rfl | rfl | rfl | rfl | rfl | rfl | rfl | rfl | rfl <;> first | rfl | exact absurd rfl hne) rfl

theorem XRep.c_wait {l : XL} {st : St} {ex : Ext} {w : World} (h : XRep l st ex w) : w.cell? ⟨l.g, 8, none⟩ = some (.bool (ex.wait)) := (h.all 1 (by omega) 8 (by decide)).1
theorem XRep.f_wait {l : XL} {st : St} {ex : Ext} {w : World} (h : XRep l st ex w) : w.frozen? ⟨l.g, 8, none⟩ = false := (h.all 1 (by omega) 8 (by decide)).2
theorem XRep.set_wait {l : XL} {st : St} {ex : Ext} {w : World} (h : XRep l st ex w) (v : Bool) : XRep l st { ex with wait := v } (w.setCell ⟨l.g, 8, none⟩ (.bool (v))) :=
  h.put 1 8 (by omega) (by decide) _ (fun i hi => by
    by_cases e : i = 8
    · subst e; rfl
    · rw [if_neg e]; show encg l (st) ({ ex with wait := v }) i = encg l st ex i; unfold encg; split <;> first | rfl | exact absurd rfl e) (fun j hj hne => by
    rcases eleven hj with rfl | rfl | rfl | rfl | rfl | rfl | rfl | rfl | rfl | rfl | rfl <;> first | rfl | exact absurd rfl hne) rfl

theorem XRep.c_down {l : XL} {st : St} {ex : Ext} {w : World} (h : XRep l st ex w) : w.cell? ⟨l.g, 18, none⟩ = some (.bool (st.down)) := (h.all 1 (by omega) 18 (by decide)).1
theorem XRep.f_down {l : XL} {st : St} {ex : Ext} {w : World} (h : XRep l st ex w) : w.frozen? ⟨l.g, 18, none⟩ = false := (h.all 1 (by omega) 18 (by decide)).2
theorem XRep.set_down {l : XL} {st : St} {ex : Ext} {w : World} (h : XRep l st ex w) (v : Bool) : XRep l { st with down := v } ex (w.setCell ⟨l.g, 18, none⟩ (.bool (v))) :=
  h.put 1 18 (by omega) (by decide) _ (fun i hi => by
    by_cases e : i = 18
    · subst e; rfl
    · rw [if_neg e]; show encg l ({ st with down := v }) (ex) i = encg l st ex i; unfold encg; split <;> first | rfl | exact absurd rfl e) (fun j hj hne => by
    rcases eleven hj with rfl | rfl | rfl | rfl | rfl | rfl | rfl | rfl | rfl | rfl | rfl <;> first | rfl | exact absurd rfl hne) rfl

theorem XRep.c_left {l : XL} {st : St} {ex : Ext} {w : World} (h : XRep l st ex w) : w.cell? ⟨l.g, 19, none⟩ = some (.int .i64 (st.left)) := (h.all 1 (by omega) 19 (by decide)).1
theorem XRep.f_left {l : XL} {st : St} {ex : Ext} {w : World} (h : XRep l st ex w) : w.frozen? ⟨l.g, 19, none⟩ = false := (h.all 1 (by omega) 19 (by decide)).2
theorem XRep.set_left {l : XL} {st : St} {ex : Ext} {w : World} (h : XRep l st ex w) (v : Int) : XRep l { st with left := v } ex (w.setCell ⟨l.g, 19, none⟩ (.int .i64 (v))) :=
  h.put 1 19 (by omega) (by decide) _ (fun i hi => by
    by_cases e : i = 19
    · subst e; rfl
    · rw [if_neg e]; show encg l ({ st with left := v }) (ex) i = encg l st ex i; unfold encg; split <;> first | rfl | exact absurd rfl e) (fun j hj hne => by
    rcases eleven hj with rfl | rfl | rfl | rfl | rfl | rfl | rfl | rfl | rfl | rfl | rfl <;> first | rfl | exact absurd rfl hne) rfl

theorem XRep.c_now {l : XL} {st : St} {ex : Ext} {w : World} (h : XRep l st ex w) : w.cell? ⟨l.ck, 0, none⟩ = some (.int .i64 (ex.now)) := (h.all 3 (by omega) 0 (by decide)).1
theorem XRep.f_now {l : XL} {st : St} {ex : Ext} {w : World} (h : XRep l st ex w) : w.frozen? ⟨l.ck, 0, none⟩ = false := (h.all 3 (by omega) 0 (by decide)).2
theorem XRep.set_now {l : XL} {st : St} {ex : Ext} {w : World} (h : XRep l st ex w) (v : Int) : XRep l st { ex with now := v } (w.setCell ⟨l.ck, 0, none⟩ (.int .i64 (v))) :=
  h.put 3 0 (by omega) (by decide) _ (fun i hi => by
    by_cases e : i = 0
    · subst e; rfl
    · rw [if_neg e]; show encck l (st) ({ ex with now := v }) i = encck l st ex i; unfold encck; split <;> first | rfl | exact absurd rfl e) (fun j hj hne => by
    rcases eleven hj with rfl | rfl | rfl | rfl | rfl | rfl | rfl | rfl | rfl | rfl | rfl <;> first | rfl | exact absurd rfl hne) rfl

theorem XRep.c_s0 {l : XL} {st : St} {ex : Ext} {w : World} (h : XRep l st ex w) : w.cell? ⟨l.bk, 128, none⟩ = some (.int .i64 (st.s0)) := (h.all 4 (by omega) 128 (by decide)).1
theorem XRep.f_s0 {l : XL} {st : St} {ex : Ext} {w : World} (h : XRep l st ex w) : w.frozen? ⟨l.bk, 128, none⟩ = false := (h.all 4 (by omega) 128 (by decide)).2
theorem XRep.set_s0 {l : XL} {st : St} {ex : Ext} {w : World} (h : XRep l st ex w) (v : Int) : XRep l { st with s0 := v } ex (w.setCell ⟨l.bk, 128, none⟩ (.int .i64 (v))) :=
  h.put 4 128 (by omega) (by decide) _ (fun i hi => by
    by_cases e : i = 128
    · subst e; rfl
    · rw [if_neg e]; show encbk l ({ st with s0 := v }) (ex) i = encbk l st ex i; unfold encbk; split <;> first | rfl | exact absurd rfl e) (fun j hj hne => by
    rcases eleven hj with rfl | rfl | rfl | rfl | rfl | rfl | rfl | rfl | rfl | rfl | rfl <;> first | rfl | exact absurd rfl hne) rfl

theorem XRep.c_s1 {l : XL} {st : St} {ex : Ext} {w : World} (h : XRep l st ex w) : w.cell? ⟨l.bk, 129, none⟩ = some (.int .i64 (st.s1)) := (h.all 4 (by omega) 129 (by decide)).1
theorem XRep.f_s1 {l : XL} {st : St} {ex : Ext} {w : World} (h : XRep l st ex w) : w.frozen? ⟨l.bk, 129, none⟩ = false := (h.all 4 (by omega) 129 (by decide)).2
theorem XRep.set_s1 {l : XL} {st : St} {ex : Ext} {w : World} (h : XRep l st ex w) (v : Int) : XRep l { st with s1 := v } ex (w.setCell ⟨l.bk, 129, none⟩ (.int .i64 (v))) :=
  h.put 4 129 (by omega) (by decide) _ (fun i hi => by
    by_cases e : i = 129
    · subst e; rfl
    · rw [if_neg e]; show encbk l ({ st with s1 := v }) (ex) i = encbk l st ex i; unfold encbk; split <;> first | rfl | exact absurd rfl e) (fun j hj hne => by
    rcases eleven hj with rfl | rfl | rfl | rfl | rfl | rfl | rfl | rfl | rfl | rfl | rfl <;> first | rfl | exact absurd rfl hne) rfl

theorem XRep.c_bank {l : XL} {st : St} {ex : Ext} {w : World} (h : XRep l st ex w) : w.cell? ⟨l.bk, 130, none⟩ = some (.int .i64 (st.bank)) := (h.all 4 (by omega) 130 (by decide)).1
theorem XRep.f_bank {l : XL} {st : St} {ex : Ext} {w : World} (h : XRep l st ex w) : w.frozen? ⟨l.bk, 130, none⟩ = false := (h.all 4 (by omega) 130 (by decide)).2
theorem XRep.set_bank {l : XL} {st : St} {ex : Ext} {w : World} (h : XRep l st ex w) (v : Int) : XRep l { st with bank := v } ex (w.setCell ⟨l.bk, 130, none⟩ (.int .i64 (v))) :=
  h.put 4 130 (by omega) (by decide) _ (fun i hi => by
    by_cases e : i = 130
    · subst e; rfl
    · rw [if_neg e]; show encbk l ({ st with bank := v }) (ex) i = encbk l st ex i; unfold encbk; split <;> first | rfl | exact absurd rfl e) (fun j hj hne => by
    rcases eleven hj with rfl | rfl | rfl | rfl | rfl | rfl | rfl | rfl | rfl | rfl | rfl <;> first | rfl | exact absurd rfl hne) rfl

theorem XRep.c_period {l : XL} {st : St} {ex : Ext} {w : World} (h : XRep l st ex w) : w.cell? ⟨l.tm, 1, none⟩ = some (.int .u8 (st.period)) := (h.all 5 (by omega) 1 (by decide)).1
theorem XRep.f_period {l : XL} {st : St} {ex : Ext} {w : World} (h : XRep l st ex w) : w.frozen? ⟨l.tm, 1, none⟩ = false := (h.all 5 (by omega) 1 (by decide)).2
theorem XRep.set_period {l : XL} {st : St} {ex : Ext} {w : World} (h : XRep l st ex w) (v : Int) : XRep l { st with period := v } ex (w.setCell ⟨l.tm, 1, none⟩ (.int .u8 (v))) :=
  h.put 5 1 (by omega) (by decide) _ (fun i hi => by
    by_cases e : i = 1
    · subst e; rfl
    · rw [if_neg e]; show enctm l ({ st with period := v }) (ex) i = enctm l st ex i; unfold enctm; split <;> first | rfl | exact absurd rfl e) (fun j hj hne => by
    rcases eleven hj with rfl | rfl | rfl | rfl | rfl | rfl | rfl | rfl | rfl | rfl | rfl <;> first | rfl | exact absurd rfl hne) rfl

theorem XRep.c_next {l : XL} {st : St} {ex : Ext} {w : World} (h : XRep l st ex w) : w.cell? ⟨l.tm, 2, none⟩ = some (.int .i64 (ex.next)) := (h.all 5 (by omega) 2 (by decide)).1
theorem XRep.f_next {l : XL} {st : St} {ex : Ext} {w : World} (h : XRep l st ex w) : w.frozen? ⟨l.tm, 2, none⟩ = false := (h.all 5 (by omega) 2 (by decide)).2
theorem XRep.set_next {l : XL} {st : St} {ex : Ext} {w : World} (h : XRep l st ex w) (v : Int) : XRep l st { ex with next := v } (w.setCell ⟨l.tm, 2, none⟩ (.int .i64 (v))) :=
  h.put 5 2 (by omega) (by decide) _ (fun i hi => by
    by_cases e : i = 2
    · subst e; rfl
    · rw [if_neg e]; show enctm l (st) ({ ex with next := v }) i = enctm l st ex i; unfold enctm; split <;> first | rfl | exact absurd rfl e) (fun j hj hne => by
    rcases eleven hj with rfl | rfl | rfl | rfl | rfl | rfl | rfl | rfl | rfl | rfl | rfl <;> first | rfl | exact absurd rfl hne) rfl

theorem XRep.c_flag {l : XL} {st : St} {ex : Ext} {w : World} (h : XRep l st ex w) : w.cell? ⟨l.tm, 3, none⟩ = some (.bool (st.flag)) := (h.all 5 (by omega) 3 (by decide)).1
theorem XRep.f_flag {l : XL} {st : St} {ex : Ext} {w : World} (h : XRep l st ex w) : w.frozen? ⟨l.tm, 3, none⟩ = false := (h.all 5 (by omega) 3 (by decide)).2
theorem XRep.set_flag {l : XL} {st : St} {ex : Ext} {w : World} (h : XRep l st ex w) (v : Bool) : XRep l { st with flag := v } ex (w.setCell ⟨l.tm, 3, none⟩ (.bool (v))) :=
  h.put 5 3 (by omega) (by decide) _ (fun i hi => by
    by_cases e : i = 3
    · subst e; rfl
    · rw [if_neg e]; show enctm l ({ st with flag := v }) (ex) i = enctm l st ex i; unfold enctm; split <;> first | rfl | exact absurd rfl e) (fun j hj hne => by
    rcases eleven hj with rfl | rfl | rfl | rfl | rfl | rfl | rfl | rfl | rfl | rfl | rfl <;> first | rfl | exact absurd rfl hne) rfl

theorem XRep.c_fed {l : XL} {st : St} {ex : Ext} {w : World} (h : XRep l st ex w) : w.cell? ⟨l.wa, 1, none⟩ = some (.int .i64 (ex.fed)) := (h.all 6 (by omega) 1 (by decide)).1
theorem XRep.f_fed {l : XL} {st : St} {ex : Ext} {w : World} (h : XRep l st ex w) : w.frozen? ⟨l.wa, 1, none⟩ = false := (h.all 6 (by omega) 1 (by decide)).2
theorem XRep.set_fed {l : XL} {st : St} {ex : Ext} {w : World} (h : XRep l st ex w) (v : Int) : XRep l st { ex with fed := v } (w.setCell ⟨l.wa, 1, none⟩ (.int .i64 (v))) :=
  h.put 6 1 (by omega) (by decide) _ (fun i hi => by
    by_cases e : i = 1
    · subst e; rfl
    · rw [if_neg e]; show encwa l (st) ({ ex with fed := v }) i = encwa l st ex i; unfold encwa; split <;> first | rfl | exact absurd rfl e) (fun j hj hne => by
    rcases eleven hj with rfl | rfl | rfl | rfl | rfl | rfl | rfl | rfl | rfl | rfl | rfl <;> first | rfl | exact absurd rfl hne) rfl

theorem XRep.c_window {l : XL} {st : St} {ex : Ext} {w : World} (h : XRep l st ex w) : w.cell? ⟨l.wa, 2, none⟩ = some (.int .u8 (st.window)) := (h.all 6 (by omega) 2 (by decide)).1
theorem XRep.f_window {l : XL} {st : St} {ex : Ext} {w : World} (h : XRep l st ex w) : w.frozen? ⟨l.wa, 2, none⟩ = false := (h.all 6 (by omega) 2 (by decide)).2
theorem XRep.set_window {l : XL} {st : St} {ex : Ext} {w : World} (h : XRep l st ex w) (v : Int) : XRep l { st with window := v } ex (w.setCell ⟨l.wa, 2, none⟩ (.int .u8 (v))) :=
  h.put 6 2 (by omega) (by decide) _ (fun i hi => by
    by_cases e : i = 2
    · subst e; rfl
    · rw [if_neg e]; show encwa l ({ st with window := v }) (ex) i = encwa l st ex i; unfold encwa; split <;> first | rfl | exact absurd rfl e) (fun j hj hne => by
    rcases eleven hj with rfl | rfl | rfl | rfl | rfl | rfl | rfl | rfl | rfl | rfl | rfl <;> first | rfl | exact absurd rfl hne) rfl

theorem XRep.c_taken {l : XL} {st : St} {ex : Ext} {w : World} (h : XRep l st ex w) : w.cell? ⟨l.wa, 3, none⟩ = some (.bool (st.windowed)) := (h.all 6 (by omega) 3 (by decide)).1
theorem XRep.f_taken {l : XL} {st : St} {ex : Ext} {w : World} (h : XRep l st ex w) : w.frozen? ⟨l.wa, 3, none⟩ = false := (h.all 6 (by omega) 3 (by decide)).2
theorem XRep.set_taken {l : XL} {st : St} {ex : Ext} {w : World} (h : XRep l st ex w) (v : Bool) : XRep l { st with windowed := v } ex (w.setCell ⟨l.wa, 3, none⟩ (.bool (v))) :=
  h.put 6 3 (by omega) (by decide) _ (fun i hi => by
    by_cases e : i = 3
    · subst e; rfl
    · rw [if_neg e]; show encwa l ({ st with windowed := v }) (ex) i = encwa l st ex i; unfold encwa; split <;> first | rfl | exact absurd rfl e) (fun j hj hne => by
    rcases eleven hj with rfl | rfl | rfl | rfl | rfl | rfl | rfl | rfl | rfl | rfl | rfl <;> first | rfl | exact absurd rfl hne) rfl

theorem XRep.c_key {l : XL} {st : St} {ex : Ext} {w : World} (h : XRep l st ex w) : w.cell? ⟨l.wa, 4, none⟩ = some (.bool (st.key)) := (h.all 6 (by omega) 4 (by decide)).1
theorem XRep.f_key {l : XL} {st : St} {ex : Ext} {w : World} (h : XRep l st ex w) : w.frozen? ⟨l.wa, 4, none⟩ = false := (h.all 6 (by omega) 4 (by decide)).2
theorem XRep.set_key {l : XL} {st : St} {ex : Ext} {w : World} (h : XRep l st ex w) (v : Bool) : XRep l { st with key := v } ex (w.setCell ⟨l.wa, 4, none⟩ (.bool (v))) :=
  h.put 6 4 (by omega) (by decide) _ (fun i hi => by
    by_cases e : i = 4
    · subst e; rfl
    · rw [if_neg e]; show encwa l ({ st with key := v }) (ex) i = encwa l st ex i; unfold encwa; split <;> first | rfl | exact absurd rfl e) (fun j hj hne => by
    rcases eleven hj with rfl | rfl | rfl | rfl | rfl | rfl | rfl | rfl | rfl | rfl | rfl <;> first | rfl | exact absurd rfl hne) rfl

theorem XRep.c_early {l : XL} {st : St} {ex : Ext} {w : World} (h : XRep l st ex w) : w.cell? ⟨l.wa, 5, none⟩ = some (.bool (ex.early)) := (h.all 6 (by omega) 5 (by decide)).1
theorem XRep.f_early {l : XL} {st : St} {ex : Ext} {w : World} (h : XRep l st ex w) : w.frozen? ⟨l.wa, 5, none⟩ = false := (h.all 6 (by omega) 5 (by decide)).2
theorem XRep.set_early {l : XL} {st : St} {ex : Ext} {w : World} (h : XRep l st ex w) (v : Bool) : XRep l st { ex with early := v } (w.setCell ⟨l.wa, 5, none⟩ (.bool (v))) :=
  h.put 6 5 (by omega) (by decide) _ (fun i hi => by
    by_cases e : i = 5
    · subst e; rfl
    · rw [if_neg e]; show encwa l (st) ({ ex with early := v }) i = encwa l st ex i; unfold encwa; split <;> first | rfl | exact absurd rfl e) (fun j hj hne => by
    rcases eleven hj with rfl | rfl | rfl | rfl | rfl | rfl | rfl | rfl | rfl | rfl | rfl <;> first | rfl | exact absurd rfl hne) rfl

theorem XRep.c_out {l : XL} {st : St} {ex : Ext} {w : World} (h : XRep l st ex w) : w.cell? ⟨l.po, 0, none⟩ = some (.int .u8 (st.out)) := (h.all 7 (by omega) 0 (by decide)).1
theorem XRep.f_out {l : XL} {st : St} {ex : Ext} {w : World} (h : XRep l st ex w) : w.frozen? ⟨l.po, 0, none⟩ = false := (h.all 7 (by omega) 0 (by decide)).2
theorem XRep.set_out {l : XL} {st : St} {ex : Ext} {w : World} (h : XRep l st ex w) (v : Int) : XRep l { st with out := v } ex (w.setCell ⟨l.po, 0, none⟩ (.int .u8 (v))) :=
  h.put 7 0 (by omega) (by decide) _ (fun i hi => by
    by_cases e : i = 0
    · subst e; rfl
    · rw [if_neg e]; show encpo l ({ st with out := v }) (ex) i = encpo l st ex i; unfold encpo; split <;> first | rfl | exact absurd rfl e) (fun j hj hne => by
    rcases eleven hj with rfl | rfl | rfl | rfl | rfl | rfl | rfl | rfl | rfl | rfl | rfl <;> first | rfl | exact absurd rfl hne) rfl

theorem XRep.c_inp {l : XL} {st : St} {ex : Ext} {w : World} (h : XRep l st ex w) : w.cell? ⟨l.po, 1, none⟩ = some (.int .u8 (ex.inp)) := (h.all 7 (by omega) 1 (by decide)).1
theorem XRep.f_inp {l : XL} {st : St} {ex : Ext} {w : World} (h : XRep l st ex w) : w.frozen? ⟨l.po, 1, none⟩ = false := (h.all 7 (by omega) 1 (by decide)).2
theorem XRep.set_inp {l : XL} {st : St} {ex : Ext} {w : World} (h : XRep l st ex w) (v : Int) : XRep l st { ex with inp := v } (w.setCell ⟨l.po, 1, none⟩ (.int .u8 (v))) :=
  h.put 7 1 (by omega) (by decide) _ (fun i hi => by
    by_cases e : i = 1
    · subst e; rfl
    · rw [if_neg e]; show encpo l (st) ({ ex with inp := v }) i = encpo l st ex i; unfold encpo; split <;> first | rfl | exact absurd rfl e) (fun j hj hne => by
    rcases eleven hj with rfl | rfl | rfl | rfl | rfl | rfl | rfl | rfl | rfl | rfl | rfl <;> first | rfl | exact absurd rfl hne) rfl

theorem XRep.c_opn {l : XL} {st : St} {ex : Ext} {w : World} (h : XRep l st ex w) : w.cell? ⟨l.up, 1, none⟩ = some (.bool (st.opn)) := (h.all 8 (by omega) 1 (by decide)).1
theorem XRep.f_opn {l : XL} {st : St} {ex : Ext} {w : World} (h : XRep l st ex w) : w.frozen? ⟨l.up, 1, none⟩ = false := (h.all 8 (by omega) 1 (by decide)).2
theorem XRep.set_opn {l : XL} {st : St} {ex : Ext} {w : World} (h : XRep l st ex w) (v : Bool) : XRep l { st with opn := v } ex (w.setCell ⟨l.up, 1, none⟩ (.bool (v))) :=
  h.put 8 1 (by omega) (by decide) _ (fun i hi => by
    by_cases e : i = 1
    · subst e; rfl
    · rw [if_neg e]; show encup l ({ st with opn := v }) (ex) i = encup l st ex i; unfold encup; split <;> first | rfl | exact absurd rfl e) (fun j hj hne => by
    rcases eleven hj with rfl | rfl | rfl | rfl | rfl | rfl | rfl | rfl | rfl | rfl | rfl <;> first | rfl | exact absurd rfl hne) rfl

theorem XRep.c_place {l : XL} {st : St} {ex : Ext} {w : World} (h : XRep l st ex w) : w.cell? ⟨l.up, 2, none⟩ = some (.int .u8 (st.place)) := (h.all 8 (by omega) 2 (by decide)).1
theorem XRep.f_place {l : XL} {st : St} {ex : Ext} {w : World} (h : XRep l st ex w) : w.frozen? ⟨l.up, 2, none⟩ = false := (h.all 8 (by omega) 2 (by decide)).2
theorem XRep.set_place {l : XL} {st : St} {ex : Ext} {w : World} (h : XRep l st ex w) (v : Int) : XRep l { st with place := v } ex (w.setCell ⟨l.up, 2, none⟩ (.int .u8 (v))) :=
  h.put 8 2 (by omega) (by decide) _ (fun i hi => by
    by_cases e : i = 2
    · subst e; rfl
    · rw [if_neg e]; show encup l ({ st with place := v }) (ex) i = encup l st ex i; unfold encup; split <;> first | rfl | exact absurd rfl e) (fun j hj hne => by
    rcases eleven hj with rfl | rfl | rfl | rfl | rfl | rfl | rfl | rfl | rfl | rfl | rfl <;> first | rfl | exact absurd rfl hne) rfl

theorem XRep.c_cause {l : XL} {st : St} {ex : Ext} {w : World} (h : XRep l st ex w) : w.cell? ⟨l.re, 0, none⟩ = some (.int .i64 (st.cause)) := (h.all 9 (by omega) 0 (by decide)).1
theorem XRep.f_cause {l : XL} {st : St} {ex : Ext} {w : World} (h : XRep l st ex w) : w.frozen? ⟨l.re, 0, none⟩ = false := (h.all 9 (by omega) 0 (by decide)).2
theorem XRep.set_cause {l : XL} {st : St} {ex : Ext} {w : World} (h : XRep l st ex w) (v : Int) : XRep l { st with cause := v } ex (w.setCell ⟨l.re, 0, none⟩ (.int .i64 (v))) :=
  h.put 9 0 (by omega) (by decide) _ (fun i hi => by
    by_cases e : i = 0
    · subst e; rfl
    · rw [if_neg e]; show encre l ({ st with cause := v }) (ex) i = encre l st ex i; unfold encre; split <;> first | rfl | exact absurd rfl e) (fun j hj hne => by
    rcases eleven hj with rfl | rfl | rfl | rfl | rfl | rfl | rfl | rfl | rfl | rfl | rfl <;> first | rfl | exact absurd rfl hne) rfl

theorem XRep.c_mem {l : XL} {st : St} {ex : Ext} {w : World} (h : XRep l st ex w) (k : Nat) (hk : k < 128) : w.cell? ⟨l.me, k, none⟩ = some (.int .u8 (st.mem k)) := (h.all 10 (by omega) k hk).1
theorem XRep.f_mem {l : XL} {st : St} {ex : Ext} {w : World} (h : XRep l st ex w) (k : Nat) (hk : k < 128) : w.frozen? ⟨l.me, k, none⟩ = false := (h.all 10 (by omega) k hk).2
theorem XRep.set_mem {l : XL} {st : St} {ex : Ext} {w : World} (h : XRep l st ex w) (k : Nat) (hk : k < 128) (v : Int) : XRep l { st with mem := upd st.mem k v } ex (w.setCell ⟨l.me, k, none⟩ (.int .u8 v)) :=
  h.put 10 k (by omega) hk _ (fun i hi => by
    show Value.int .u8 (upd st.mem k v i) = _
    unfold upd
    by_cases e : i = k
    · rw [if_pos e, if_pos e]
    · rw [if_neg e, if_neg e]; rfl) (fun j hj hne => by
    rcases eleven hj with rfl | rfl | rfl | rfl | rfl | rfl | rfl | rfl | rfl | rfl | rfl <;> first | rfl | exact absurd rfl hne) rfl

theorem encbk_b0 (l : XL) (st : St) (ex : Ext) (i : Nat) (hi : i < 64) : encbk l st ex i = .int .u8 (st.b0 i) := by
  unfold encbk
  split <;> first | omega | rw [if_pos hi]
theorem encbk_b1 (l : XL) (st : St) (ex : Ext) (i : Nat) (hi : i < 64) : encbk l st ex (64 + i) = .int .u8 (st.b1 i) := by
  unfold encbk
  split <;> first | omega | rw [if_neg (by omega), Nat.add_sub_cancel_left]

theorem XRep.c_b0 {l : XL} {st : St} {ex : Ext} {w : World} (h : XRep l st ex w) (k : Nat) (hk : k < 64) : w.cell? ⟨l.bk, k, none⟩ = some (.int .u8 (st.b0 k)) :=
  (h.all 4 (by omega) k (by show k < 131; omega)).1.trans (congrArg some (encbk_b0 l st ex k hk))
theorem XRep.c_b1 {l : XL} {st : St} {ex : Ext} {w : World} (h : XRep l st ex w) (k : Nat) (hk : k < 64) : w.cell? ⟨l.bk, 64 + k, none⟩ = some (.int .u8 (st.b1 k)) :=
  (h.all 4 (by omega) (64 + k) (by show 64 + k < 131; omega)).1.trans (congrArg some (encbk_b1 l st ex k hk))
theorem XRep.f_bk {l : XL} {st : St} {ex : Ext} {w : World} (h : XRep l st ex w) (k : Nat) (hk : k < 131) : w.frozen? ⟨l.bk, k, none⟩ = false := (h.all 4 (by omega) k hk).2
theorem XRep.set_b0 {l : XL} {st : St} {ex : Ext} {w : World} (h : XRep l st ex w) (k : Nat) (hk : k < 64) (v : Int) : XRep l { st with b0 := upd st.b0 k v } ex (w.setCell ⟨l.bk, k, none⟩ (.int .u8 v)) :=
  h.put 4 k (by omega) (by show k < 131; omega) _ (fun i hi => by
    show encbk l { st with b0 := upd st.b0 k v } ex i = if i = k then _ else encbk l st ex i
    by_cases e : i = k
    · subst e
      rw [if_pos rfl, encbk_b0 _ _ _ _ hk]
      simp [upd]
    · rw [if_neg e]
      unfold encbk
      split <;> first | rfl | simp [upd, e]) (fun j hj hne => by
    rcases eleven hj with rfl | rfl | rfl | rfl | rfl | rfl | rfl | rfl | rfl | rfl | rfl <;> first | rfl | exact absurd rfl hne) rfl
theorem XRep.set_b1 {l : XL} {st : St} {ex : Ext} {w : World} (h : XRep l st ex w) (k : Nat) (hk : k < 64) (v : Int) : XRep l { st with b1 := upd st.b1 k v } ex (w.setCell ⟨l.bk, 64 + k, none⟩ (.int .u8 v)) :=
  h.put 4 (64 + k) (by omega) (by show 64 + k < 131; omega) _ (fun i hi => by
    show encbk l { st with b1 := upd st.b1 k v } ex i = if i = 64 + k then _ else encbk l st ex i
    by_cases e : i = 64 + k
    · subst e
      rw [if_pos rfl, encbk_b1 _ _ _ _ hk]
      simp [upd]
    · rw [if_neg e]
      unfold encbk
      split <;> first | rfl | (split; rfl; rename_i h1; simp only [upd]; rw [if_neg (by omega)])) (fun j hj hne => by
    rcases eleven hj with rfl | rfl | rfl | rfl | rfl | rfl | rfl | rfl | rfl | rfl | rfl <;> first | rfl | exact absurd rfl hne) rfl

/-- What memory does not hold may be anything. -/
theorem XRep.ghost {l : XL} {st : St} {ex : Ext} {w : World} (h : XRep l st ex w) (op opd ph co ag inp rs : Int) : XRep l { st with op := op, opd := opd, phase := ph, count := co, age := ag, inp := inp, rst := rs } ex w :=
  ⟨fun j hj => by rcases eleven hj with rfl | rfl | rfl | rfl | rfl | rfl | rfl | rfl | rfl | rfl | rfl <;> exact h.all _ hj, h.inj, h.qu, h.qa⟩

theorem XRep.nb_q {l : XL} {st : St} {ex : Ext} {w : World} (h : XRep l st ex w) : l.nb < w.heap.size := h.lt (own_nb l)
theorem XRep.g_q {l : XL} {st : St} {ex : Ext} {w : World} (h : XRep l st ex w) : l.g < w.heap.size := h.lt (own_g l)
theorem XRep.bs_q {l : XL} {st : St} {ex : Ext} {w : World} (h : XRep l st ex w) : l.bs < w.heap.size := h.lt (own_bs l)
theorem XRep.ck_q {l : XL} {st : St} {ex : Ext} {w : World} (h : XRep l st ex w) : l.ck < w.heap.size := h.lt (own_ck l)
theorem XRep.bk_q {l : XL} {st : St} {ex : Ext} {w : World} (h : XRep l st ex w) : l.bk < w.heap.size := h.lt (own_bk l)
theorem XRep.tm_q {l : XL} {st : St} {ex : Ext} {w : World} (h : XRep l st ex w) : l.tm < w.heap.size := h.lt (own_tm l)
theorem XRep.wa_q {l : XL} {st : St} {ex : Ext} {w : World} (h : XRep l st ex w) : l.wa < w.heap.size := h.lt (own_wa l)
theorem XRep.po_q {l : XL} {st : St} {ex : Ext} {w : World} (h : XRep l st ex w) : l.po < w.heap.size := h.lt (own_po l)
theorem XRep.up_q {l : XL} {st : St} {ex : Ext} {w : World} (h : XRep l st ex w) : l.up < w.heap.size := h.lt (own_up l)
theorem XRep.re_q {l : XL} {st : St} {ex : Ext} {w : World} (h : XRep l st ex w) : l.re < w.heap.size := h.lt (own_re l)
theorem XRep.me_q {l : XL} {st : St} {ex : Ext} {w : World} (h : XRep l st ex w) : l.me < w.heap.size := h.lt (own_me l)

end Go.Proofs.YtikdbpphbdbdnaaGreat

/- The parts on the bus: what is read of them. -/
namespace Go.Proofs.YtikdbpphbdbdnaaGreat
open Go.RowKit
set_option linter.unusedVariables false

set_option maxHeartbeats 400000 in
theorem kprogram_0 {l : XL} {st : St} {ex : Ext} {w : World} (hr : XRep l st ex w) (hb : st.bank = 0) :
    Calls Tryz.prog 143 #[.pointer (some ⟨l.bk, 0, none⟩)] w fun e w' => e = .returned (.pointer (some ⟨l.bk, 0, none⟩)) ∧ ∃ n, w' = w.drewN n := by
  have c1 := hr.c_bank
  rw [hb] at c1
  clear hb
  go_enter Tryz.func143, Tryz.ntmps143
  go_wp2
  go_quiet (fail)
  go_wp2
  go_ret
  exact ⟨rfl, _, rfl⟩

set_option maxHeartbeats 400000 in
theorem kprogram_1 {l : XL} {st : St} {ex : Ext} {w : World} (hr : XRep l st ex w) (hb : st.bank = 1) :
    Calls Tryz.prog 143 #[.pointer (some ⟨l.bk, 0, none⟩)] w fun e w' => e = .returned (.pointer (some ⟨l.bk, 64, none⟩)) ∧ ∃ n, w' = w.drewN n := by
  have c1 := hr.c_bank
  rw [hb] at c1
  clear hb
  go_enter Tryz.func143, Tryz.ntmps143
  go_wp2
  go_quiet (fail)
  go_wp2
  go_ret
  exact ⟨rfl, _, rfl⟩

set_option maxHeartbeats 400000 in
theorem kspare_0 {l : XL} {st : St} {ex : Ext} {w : World} (hr : XRep l st ex w) (hb : st.bank = 0) :
    Calls Tryz.prog 159 #[.pointer (some ⟨l.bk, 0, none⟩)] w fun e w' => e = .returned (.pointer (some ⟨l.bk, 64, none⟩)) ∧ ∃ n, w' = w.drewN n := by
  have c1 := hr.c_bank
  rw [hb] at c1
  clear hb
  go_enter Tryz.func159, Tryz.ntmps159
  go_wp2
  go_quiet (fail)
  go_wp2
  go_ret
  exact ⟨rfl, _, rfl⟩

set_option maxHeartbeats 400000 in
theorem kspare_1 {l : XL} {st : St} {ex : Ext} {w : World} (hr : XRep l st ex w) (hb : st.bank = 1) :
    Calls Tryz.prog 159 #[.pointer (some ⟨l.bk, 0, none⟩)] w fun e w' => e = .returned (.pointer (some ⟨l.bk, 0, none⟩)) ∧ ∃ n, w' = w.drewN n := by
  have c1 := hr.c_bank
  rw [hb] at c1
  clear hb
  go_enter Tryz.func159, Tryz.ntmps159
  go_wp2
  go_quiet (fail)
  go_wp2
  go_ret
  exact ⟨rfl, _, rfl⟩

/-- Nothing was written. -/
def Still (w w' : World) : Prop := Kept (fun _ => False) w w'

set_option maxHeartbeats 400000 in
theorem mread_any {l : XL} {st : St} {ex : Ext} {w : World} (hr : XRep l st ex w) (k : Nat) (hk : k < 128) :
    Calls Tryz.prog 136 #[.pointer (some ⟨l.me, 0, none⟩), .int .u8 k] w fun e w' => e = .returned (.int .u8 (st.mem k)) ∧ Still w w' := by
  have c1 := hr.c_mem k hk
  have hk' : (k : Int) < 128 := by omega
  go_enter Tryz.func136, Tryz.ntmps136
  go_wp2
  go_ret
  exact ⟨rfl, Kept.refl _ _⟩

set_option maxHeartbeats 400000 in
theorem gread_0 {l : XL} {st : St} {ex : Ext} {w : World} (hr : XRep l st ex w) (hb : st.bank = 0) (k : Nat) (hk : k < 64) :
    Calls Tryz.prog 141 #[.agg #[.pointer (some ⟨l.bk, 0, none⟩)], .int .u8 k] w fun e w' => e = .returned (.int .u8 (st.b0 k)) ∧ Still w w' := by
  have c1 := hr.c_b0 k hk
  have hk' : (k : Int) < 64 := by omega
  have hlt := hr.bk_q
  go_enter Tryz.func141, Tryz.ntmps141
  go_wp2_with fail
  refine (kprogram_0 (hr.alloc _) hb).mono ?_
  rintro e w1 ⟨rfl, n, rfl⟩
  go_wp2
  go_ret
  exact ⟨rfl, ((Kept.refl _ _).alloc _).drewN _⟩

set_option maxHeartbeats 400000 in
theorem gread_1 {l : XL} {st : St} {ex : Ext} {w : World} (hr : XRep l st ex w) (hb : st.bank = 1) (k : Nat) (hk : k < 64) :
    Calls Tryz.prog 141 #[.agg #[.pointer (some ⟨l.bk, 0, none⟩)], .int .u8 k] w fun e w' => e = .returned (.int .u8 (st.b1 k)) ∧ Still w w' := by
  have c1 := hr.c_b1 k hk
  have hk' : (k : Int) < 64 := by omega
  have hlt := hr.bk_q
  go_enter Tryz.func141, Tryz.ntmps141
  go_wp2_with fail
  refine (kprogram_1 (hr.alloc _) hb).mono ?_
  rintro e w1 ⟨rfl, n, rfl⟩
  go_wp2
  go_ret
  exact ⟨rfl, ((Kept.refl _ _).alloc _).drewN _⟩

set_option maxHeartbeats 400000 in
theorem pread_0 {l : XL} {st : St} {ex : Ext} {w : World} (hr : XRep l st ex w) :
    Calls Tryz.prog 155 #[.pointer (some ⟨l.po, 0, none⟩), .int .u8 0] w fun e w' => e = .returned (.int .u8 st.out) ∧ Still w w' := by
  have c1 := hr.c_out
  go_enter Tryz.func155, Tryz.ntmps155
  go_wp2
  go_ret
  exact ⟨rfl, Kept.refl _ _⟩

set_option maxHeartbeats 400000 in
theorem pread_1 {l : XL} {st : St} {ex : Ext} {w : World} (hr : XRep l st ex w) :
    Calls Tryz.prog 155 #[.pointer (some ⟨l.po, 0, none⟩), .int .u8 1] w fun e w' => e = .returned (.int .u8 ex.inp) ∧ Still w w' := by
  have c1 := hr.c_inp
  go_enter Tryz.func155, Tryz.ntmps155
  go_wp2
  go_ret
  exact ⟨rfl, Kept.refl _ _⟩

set_option maxHeartbeats 400000 in
theorem cread_0 {l : XL} {st : St} {ex : Ext} {w : World} (hr : XRep l st ex w) (hi : Inv st) :
    Calls Tryz.prog 137 #[.pointer (some ⟨l.re, 0, none⟩), .int .u8 0] w fun e w' => e = .returned (.int .u8 st.cause) ∧ Still w w' := by
  have c1 := hr.c_cause
  obtain ⟨v0, v1⟩ := hi.cause
  have HF : Hid (st.cause % 256 = st.cause) := by unfold Hid; omega
  go_enter Tryz.func137, Tryz.ntmps137
  go_wp2
  go_ret
  exact ⟨ret_int (by first | exact HF.out | rfl), Kept.refl _ _⟩

set_option maxHeartbeats 400000 in
theorem cread_1 {l : XL} {st : St} {ex : Ext} {w : World} (hr : XRep l st ex w) (h0 : 0 ≤ st.bank) (h1 : st.bank ≤ 1) :
    Calls Tryz.prog 137 #[.pointer (some ⟨l.re, 0, none⟩), .int .u8 1] w fun e w' => e = .returned (.int .u8 st.bank) ∧ Still w w' := by
  have c1 := hr.c_rbk
  have c2 := hr.c_bank
  have HF : Hid (st.bank % 256 = st.bank) := by unfold Hid; omega
  go_enter Tryz.func137, Tryz.ntmps137
  go_wp2
  go_ret
  exact ⟨ret_int (by first | exact HF.out | rfl), Kept.refl _ _⟩

set_option maxHeartbeats 400000 in
theorem tcount_0 {l : XL} {st : St} {ex : Ext} {w : World} (hr : XRep l st ex w) (h0 : st.period = 0) :
    Calls Tryz.prog 61 #[.pointer (some ⟨l.tm, 0, none⟩)] w fun e w' => e = .returned (.int .u8 0) ∧ Still w w' := by
  have c1 := hr.c_period
  rw [h0] at c1
  clear h0
  go_enter Tryz.func61, Tryz.ntmps61
  go_wp2
  go_ret
  exact ⟨rfl, Kept.refl _ _⟩

set_option maxHeartbeats 400000 in
theorem tcount_1 {l : XL} {st : St} {ex : Ext} {w : World} (hr : XRep l st ex w) (h0 : (st.period == 0) = false) (n0 : 0 ≤ ex.now) (n1 : ex.now < 4611686018427387904) (hn : ex.next = ex.now + st.count) (v0 : 0 ≤ st.count) (v1 : st.count ≤ 255) :
    Calls Tryz.prog 61 #[.pointer (some ⟨l.tm, 0, none⟩)] w fun e w' => e = .returned (.int .u8 st.count) ∧ Still w w' := by
  have c1 := hr.c_period
  have c2 := hr.c_next
  have c3 := hr.c_tck
  have c4 := hr.c_now
  rw [hn] at c2
  clear hn
  go_enter Tryz.func61, Tryz.ntmps61
  go_wp2
  go_quiet (fail)
  go_wp2
  go_ret
  exact ⟨ret_int (by omega), (Kept.refl _ _).drewN _⟩

set_option maxHeartbeats 400000 in
theorem wage_any {l : XL} {st : St} {ex : Ext} {w : World} (hr : XRep l st ex w) (n0 : 0 ≤ ex.now) (n1 : ex.now < 4611686018427387904) (hn : ex.fed = ex.now - st.age) (v0 : 0 ≤ st.age) (v1 : st.age ≤ 251) :
    Calls Tryz.prog 60 #[.pointer (some ⟨l.wa, 0, none⟩)] w fun e w' => e = .returned (.int .i64 st.age) ∧ ∃ n, w' = w.drewN n := by
  have c2 := hr.c_fed
  have c3 := hr.c_wck
  have c4 := hr.c_now
  rw [hn] at c2
  have HF : Hid (ex.now - (ex.now - st.age) = st.age) := by unfold Hid; omega
  clear hn
  go_enter Tryz.func60, Tryz.ntmps60
  go_wp2
  go_quiet (fail)
  go_wp2
  go_ret
  exact ⟨ret_int (by first | exact HF.out | rfl), _, rfl⟩

/-- The times that the program keeps, against the counts. -/
structure Clk (n : Nat) (st : St) (ex : Ext) : Prop where
  n0 : 0 ≤ ex.now
  n1 : ex.now ≤ n
  nx : ¬ st.period = 0 → ex.next = ex.now + st.count
  p0 : st.period = 0 → st.count = 0
  fd : ex.fed = ex.now - st.age

set_option maxHeartbeats 400000 in
theorem tcount_any {n : Nat} (hn : n < 4611686018427387904) {l : XL} {st : St} {ex : Ext} {w : World} (hr : XRep l st ex w) (hi : Inv st) (hc : Clk n st ex) :
    Calls Tryz.prog 61 #[.pointer (some ⟨l.tm, 0, none⟩)] w fun e w' => e = .returned (.int .u8 st.count) ∧ Still w w' := by
  by_cases h : st.period = 0
  · rw [hc.p0 h]
    exact tcount_0 hr h
  · have := hc.n1
    exact tcount_1 hr (beq_eq_false_iff_ne.2 h) hc.n0 (by omega) (hc.nx h) hi.count.1 hi.count.2

set_option maxHeartbeats 400000 in
theorem tread_0 {l : XL} {st : St} {ex : Ext} {w : World} (hr : XRep l st ex w) :
    Calls Tryz.prog 148 #[.pointer (some ⟨l.tm, 0, none⟩), .int .u8 0] w fun e w' => e = .returned (.int .u8 st.period) ∧ Still w w' := by
  have c1 := hr.c_period
  go_enter Tryz.func148, Tryz.ntmps148
  go_wp2
  go_ret
  exact ⟨rfl, Kept.refl _ _⟩

set_option maxHeartbeats 400000 in
theorem tread_1 {n : Nat} (hn : n < 4611686018427387904) {l : XL} {st : St} {ex : Ext} {w : World} (hr : XRep l st ex w) (hi : Inv st) (hc : Clk n st ex) :
    Calls Tryz.prog 148 #[.pointer (some ⟨l.tm, 0, none⟩), .int .u8 1] w fun e w' => e = .returned (.int .u8 st.count) ∧ Still w w' := by
  go_enter Tryz.func148, Tryz.ntmps148
  go_wp2_with fail
  refine (tcount_any hn hr hi hc).mono ?_
  rintro e w1 ⟨rfl, k1⟩
  go_wp2
  go_ret
  exact ⟨rfl, k1⟩

set_option maxHeartbeats 400000 in
theorem tread_2 {l : XL} {st : St} {ex : Ext} {w : World} (hr : XRep l st ex w) :
    Calls Tryz.prog 148 #[.pointer (some ⟨l.tm, 0, none⟩), .int .u8 2] w fun e w' => e = .returned (.int .u8 (flagN st.flag)) ∧ Still w w' := by
  have c1 := hr.c_flag
  cases hf : st.flag
  · rw [hf] at c1
    clear hf
    go_enter Tryz.func148, Tryz.ntmps148
    go_wp2
    go_ret
    exact ⟨rfl, Kept.refl _ _⟩
  · rw [hf] at c1
    clear hf
    go_enter Tryz.func148, Tryz.ntmps148
    go_wp2
    go_ret
    exact ⟨rfl, Kept.refl _ _⟩

set_option maxHeartbeats 400000 in
theorem wread_0 {n : Nat} (hn : n < 4611686018427387904) {l : XL} {st : St} {ex : Ext} {w : World} (hr : XRep l st ex w) (hi : Inv st) (hc : Clk n st ex) :
    Calls Tryz.prog 150 #[.pointer (some ⟨l.wa, 0, none⟩), .int .u8 0] w fun e w' => e = .returned (.int .u8 st.age) ∧ Still w w' := by
  have hc1 := hc.n1
  obtain ⟨a0, a1⟩ := hi.age
  go_enter Tryz.func150, Tryz.ntmps150
  go_wp2_with fail
  refine (wage_any hr hc.n0 (by omega) hc.fd a0 a1).mono ?_
  rintro e w1 ⟨rfl, nq, rfl⟩
  go_wp2
  go_ret
  exact ⟨ret_int (by first | rfl | omega), (Kept.refl _ _).drewN _⟩

set_option maxHeartbeats 400000 in
theorem wread_1 {l : XL} {st : St} {ex : Ext} {w : World} (hr : XRep l st ex w) :
    Calls Tryz.prog 150 #[.pointer (some ⟨l.wa, 0, none⟩), .int .u8 1] w fun e w' => e = .returned (.int .u8 st.window) ∧ Still w w' := by
  have c1 := hr.c_window
  go_enter Tryz.func150, Tryz.ntmps150
  go_wp2
  go_ret
  exact ⟨rfl, Kept.refl _ _⟩

set_option maxHeartbeats 400000 in
theorem uread_0 {l : XL} {st : St} {ex : Ext} {w : World} (hr : XRep l st ex w) :
    Calls Tryz.prog 157 #[.pointer (some ⟨l.up, 0, none⟩), .int .u8 0] w fun e w' => e = .returned (.int .u8 (flagN st.opn)) ∧ Still w w' := by
  have c1 := hr.c_opn
  cases hf : st.opn
  · rw [hf] at c1
    clear hf
    go_enter Tryz.func157, Tryz.ntmps157
    go_wp2
    go_ret
    exact ⟨rfl, Kept.refl _ _⟩
  · rw [hf] at c1
    clear hf
    go_enter Tryz.func157, Tryz.ntmps157
    go_wp2
    go_ret
    exact ⟨rfl, Kept.refl _ _⟩

set_option maxHeartbeats 400000 in
theorem uread_1 {l : XL} {st : St} {ex : Ext} {w : World} (hr : XRep l st ex w) :
    Calls Tryz.prog 157 #[.pointer (some ⟨l.up, 0, none⟩), .int .u8 1] w fun e w' => e = .returned (.int .u8 st.place) ∧ Still w w' := by
  have c1 := hr.c_place
  go_enter Tryz.func157, Tryz.ntmps157
  go_wp2
  go_ret
  exact ⟨rfl, Kept.refl _ _⟩

set_option maxHeartbeats 400000 in
theorem uread_20 {l : XL} {st : St} {ex : Ext} {w : World} (hr : XRep l st ex w) (hb : st.bank = 0) (k : Nat) (hk : k < 64) (hp : st.place = k) :
    Calls Tryz.prog 157 #[.pointer (some ⟨l.up, 0, none⟩), .int .u8 2] w fun e w' => e = .returned (.int .u8 (st.b1 k)) ∧ Still w w' := by
  have c1 := hr.c_b1 k hk
  have c2 := hr.c_place
  have c3 := hr.c_ubk
  rw [hp] at c2
  have hk' : (k : Int) < 64 := by omega
  have HC : Hid _ := fun W (hW : Still w W) => kspare_0 (hr.kept hW (fun _ _ x => x)) hb
  have HS : Hid (∀ W, Still w W → W.cell? ⟨l.bk, 64 + k, none⟩ = some (.int .u8 (st.b1 k)) ∧ W.cell? ⟨l.up, 2, none⟩ = some (.int .u8 k) ∧ W.cell? ⟨l.up, 0, none⟩ = some (.pointer (some ⟨l.bk, 0, none⟩))) := fun W hW =>
    have h := hr.kept hW (fun _ _ x => x)
    ⟨h.c_b1 k hk, by rw [h.c_place, hp], h.c_ubk⟩
  clear hb hp
  go_enter Tryz.func157, Tryz.ntmps157
  go_wp2
  go_region_held3 (fun W => W.cell? ⟨l.bk, 64 + k, none⟩ = some (.int .u8 (st.b1 k)) ∧ W.cell? ⟨l.up, 2, none⟩ = some (.int .u8 k) ∧ W.cell? ⟨l.up, 0, none⟩ = some (.pointer (some ⟨l.bk, 0, none⟩))) (first | (apply HS.out; unfold Still; (repeat (with_reducible first | apply Kept.alloc | apply Kept.drewN | apply Kept.drew | apply Kept.nb | apply Kept.g | apply Kept.bs | apply Kept.ck | apply Kept.bk | apply Kept.tm | apply Kept.wa | apply Kept.po | apply Kept.up | apply Kept.re | apply Kept.me | refine Kept.setCell ?_ (Or.inr (Nat.le_refl _)) _ | refine Kept.setCell ?_ (Or.inr (by omega)) _ | exact k1 | exact k2 | exact k3 | exact Kept.refl _ _)); done) | go_keep) (first | (go_at_call 159; refine (HC.out _ (by unfold Still; (repeat (with_reducible first | apply Kept.alloc | apply Kept.drewN | apply Kept.drew | apply Kept.nb | apply Kept.g | apply Kept.bs | apply Kept.ck | apply Kept.bk | apply Kept.tm | apply Kept.wa | apply Kept.po | apply Kept.up | apply Kept.re | apply Kept.me | refine Kept.setCell ?_ (Or.inr (Nat.le_refl _)) _ | refine Kept.setCell ?_ (Or.inr (by omega)) _ | exact k1 | exact k2 | exact k3 | exact Kept.refl _ _)))).mono ?_; rintro e w' ⟨rfl, n, rfl⟩))
  go_wp2
  go_ret
  exact ⟨rfl, by unfold Still; (repeat (with_reducible first | apply Kept.alloc | apply Kept.drewN | apply Kept.drew | apply Kept.nb | apply Kept.g | apply Kept.bs | apply Kept.ck | apply Kept.bk | apply Kept.tm | apply Kept.wa | apply Kept.po | apply Kept.up | apply Kept.re | apply Kept.me | refine Kept.setCell ?_ (Or.inr (Nat.le_refl _)) _ | refine Kept.setCell ?_ (Or.inr (by omega)) _ | exact k1 | exact k2 | exact k3 | exact Kept.refl _ _))⟩

set_option maxHeartbeats 400000 in
theorem uread_21 {l : XL} {st : St} {ex : Ext} {w : World} (hr : XRep l st ex w) (hb : st.bank = 1) (k : Nat) (hk : k < 64) (hp : st.place = k) :
    Calls Tryz.prog 157 #[.pointer (some ⟨l.up, 0, none⟩), .int .u8 2] w fun e w' => e = .returned (.int .u8 (st.b0 k)) ∧ Still w w' := by
  have c1 := hr.c_b0 k hk
  have c2 := hr.c_place
  have c3 := hr.c_ubk
  rw [hp] at c2
  have hk' : (k : Int) < 64 := by omega
  have HC : Hid _ := fun W (hW : Still w W) => kspare_1 (hr.kept hW (fun _ _ x => x)) hb
  have HS : Hid (∀ W, Still w W → W.cell? ⟨l.bk, k, none⟩ = some (.int .u8 (st.b0 k)) ∧ W.cell? ⟨l.up, 2, none⟩ = some (.int .u8 k) ∧ W.cell? ⟨l.up, 0, none⟩ = some (.pointer (some ⟨l.bk, 0, none⟩))) := fun W hW =>
    have h := hr.kept hW (fun _ _ x => x)
    ⟨h.c_b0 k hk, by rw [h.c_place, hp], h.c_ubk⟩
  clear hb hp
  go_enter Tryz.func157, Tryz.ntmps157
  go_wp2
  go_region_held3 (fun W => W.cell? ⟨l.bk, k, none⟩ = some (.int .u8 (st.b0 k)) ∧ W.cell? ⟨l.up, 2, none⟩ = some (.int .u8 k) ∧ W.cell? ⟨l.up, 0, none⟩ = some (.pointer (some ⟨l.bk, 0, none⟩))) (first | (apply HS.out; unfold Still; (repeat (with_reducible first | apply Kept.alloc | apply Kept.drewN | apply Kept.drew | apply Kept.nb | apply Kept.g | apply Kept.bs | apply Kept.ck | apply Kept.bk | apply Kept.tm | apply Kept.wa | apply Kept.po | apply Kept.up | apply Kept.re | apply Kept.me | refine Kept.setCell ?_ (Or.inr (Nat.le_refl _)) _ | refine Kept.setCell ?_ (Or.inr (by omega)) _ | exact k1 | exact k2 | exact k3 | exact Kept.refl _ _)); done) | go_keep) (first | (go_at_call 159; refine (HC.out _ (by unfold Still; (repeat (with_reducible first | apply Kept.alloc | apply Kept.drewN | apply Kept.drew | apply Kept.nb | apply Kept.g | apply Kept.bs | apply Kept.ck | apply Kept.bk | apply Kept.tm | apply Kept.wa | apply Kept.po | apply Kept.up | apply Kept.re | apply Kept.me | refine Kept.setCell ?_ (Or.inr (Nat.le_refl _)) _ | refine Kept.setCell ?_ (Or.inr (by omega)) _ | exact k1 | exact k2 | exact k3 | exact Kept.refl _ _)))).mono ?_; rintro e w' ⟨rfl, n, rfl⟩))
  go_wp2
  go_ret
  exact ⟨rfl, by unfold Still; (repeat (with_reducible first | apply Kept.alloc | apply Kept.drewN | apply Kept.drew | apply Kept.nb | apply Kept.g | apply Kept.bs | apply Kept.ck | apply Kept.bk | apply Kept.tm | apply Kept.wa | apply Kept.po | apply Kept.up | apply Kept.re | apply Kept.me | refine Kept.setCell ?_ (Or.inr (Nat.le_refl _)) _ | refine Kept.setCell ?_ (Or.inr (by omega)) _ | exact k1 | exact k2 | exact k3 | exact Kept.refl _ _))⟩

end Go.Proofs.YtikdbpphbdbdnaaGreat
