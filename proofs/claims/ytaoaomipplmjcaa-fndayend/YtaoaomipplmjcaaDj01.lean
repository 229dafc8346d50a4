/-
  Small facts that all walks of this seat lean on: facts kept from the walk, an ending's value, a text's bytes as a list.
-/
import Derived.Test.YtaoaomipplmjcaaRows
import Derived.WalkKit
import Derived.Below
import Derived.OpenShut
import Derived.Deep.QuietTactic
import Derived.BigQuiet
import Derived.WalkSmall
import Derived.WalkSpells
import Derived.WalkLawsBesides
import Derived.Laws.Externs
import GoSem.Core.Float
namespace Go.Proofs.Ytaoaomipplmjcaa
open Go.RowKit

theorem hide {p:Prop} (h:p):Hid p:=h
theorem za {p:Prop} (h:Hid p):p:=h
theorem zt {a b:Bool} (h:a = b):Ending.returned (.bool a) = .returned (.bool b):=by rw [h]
theorem zx {k:IntKind} {a b:Int} (h:a = b):Ending.returned (.int k a) = .returned (.int k b):=by rw [h]
theorem get_nat (s:ByteArray) (k:Nat) (h:k < s.size):s[k] = s.data.toList[k]'(by simpa using h):=rfl
theorem data_len (s:ByteArray):s.data.toList.length = s.size:=by simp
end Go.Proofs.Ytaoaomipplmjcaa
namespace Go.Proofs.Ytaoaomipplmjcaa
open Go.RowKit

def Rd (w:World) (v:Value) (l:List Int):Prop :=
  ∃ (a:Option Addr) (cap:Nat),v = .slice a l.length cap∧l.length ≤ 1073741824 ∧
    (l ≠ []→∃ b off,a = some ⟨b,off,none⟩∧∀ i,i < l.length→w.cell? ⟨b,off + i,none⟩ = some (.int .u8 (l.getD i 0)))
theorem zaM {a b c:World} {row:Option Nat} (h:a.grownBy b row) (k:b.grownBy c row):a.grownBy c row :=
  ⟨k.os.trans h.os,k.tape.trans h.tape,k.output.trans h.output,Nat.le_trans h.size k.size,
    fun i hi hne=>(k.block i (Nat.lt_of_lt_of_le hi h.size) hne).trans (h.block i hi hne)⟩
theorem zad (w:World) (a:Addr) (u:Value):w.grownBy (w.setCell a u) (some a.block) :=
  ⟨rfl,rfl,rfl,by simp [World.setCell],fun k _ hne=>Below.heap_setCell _ _ _ _ (fun e=>hne (by rw [e]))⟩
theorem gr_drewN (w:World) (n:Nat) (row:Option Nat):w.grownBy (w.drewN n) row:=⟨rfl,rfl,rfl,Nat.le_refl _,fun _ _ _=>rfl⟩
theorem gr_below {w w':World} {g B:Nat} (h:w.grownBy w' (some g)) (hB:B ≤ g) (hs:B ≤ w.heap.size):Below B w w' :=
  ⟨h.os,h.tape,h.output,h.size,fun k hk=>h.block k (by omega) (by simp; omega)⟩
theorem zH {g a b:Nat} (h:a ≠ b):(⟨g,a,none⟩:Addr) ≠ ⟨g,b,none⟩:=by
  intro e; injection e; exact h (by assumption)
def Own (B:Nat) (w:World) (v:Value) (l:List Int):Prop :=
  ∃ g cap,v = .slice (some ⟨g,0,none⟩) l.length cap∧B ≤ g∧g < w.heap.size∧l.length ≤ 1073741824 ∧
    (∀ i,i < l.length→w.cell? ⟨g,0 + i,none⟩ = some (.int .u8 (l.getD i 0)))∧∀ i,i < l.length→w.frozen? ⟨g,0 + i,none⟩ = false
def OwnT (B:Nat) (w:World) (v:Value) (l:List Int):Prop :=
  ∃ g cap cur t,v = .slice (some ⟨g,0,none⟩) l.length cap∧B ≤ g∧w.heap[g]? = some (.cells cur t (0,0))∧l.length ≤ cap∧cap ≤ cur.size∧cap ≤ maxLen∧l.length ≤ 1073741824 ∧
    cur.toList.take l.length = l.map (Value.int .u8)
theorem cell_head {w:World} {g t:Nat} {cur:Array Value} {l:List Int} (hg:w.heap[g]? = some (.cells cur t (0,0))) (ht:cur.toList.take l.length = l.map (Value.int .u8)) {i:Nat} (hi:i < l.length) :
    w.cell? ⟨g,i,none⟩ = some (.int .u8 (l.getD i 0)):=by
  rw [cell_of_row w g i cur t (0,0) hg]
  have h1:(cur.toList.take l.length)[i]? = (l.map (Value.int .u8))[i]?:=by rw [ht]
  rw [List.getElem?_take,if_pos hi,List.getElem?_map,List.getElem?_eq_getElem hi] at h1
  simpa [hi] using h1
theorem OwnT.own {B:Nat} {w:World} {v:Value} {l:List Int} (h:OwnT B w v l):Own B w v l:=by
  obtain ⟨g,cap,cur,t,rfl,hb,hg,_,_,_,hl,ht⟩:=h
  exact ⟨g,cap,rfl,hb,(Array.getElem?_eq_some_iff.1 hg).1,hl,fun i hi=>by rw [Nat.zero_add]; exact cell_head hg ht hi,fun i _=>by simp [World.frozen?,hg]⟩
theorem OwnT.ge {B:Nat} {w:World} {v:Value} {l:List Int} (h:OwnT B w v l):∀ k,v.ownBlock = some k→B ≤ k:=by
  obtain ⟨g,cap,cur,t,rfl,hb,_⟩:=h
  intro k hk
  simp [Value.ownBlock] at hk
  omega
def Arr (M B:Nat) (w wr:World) (done:List Int):Prop :=
  ∃ cur t,wr.heap[B]? = some (.cells cur t (0,0))∧cur.size = M∧done.length ≤ M∧cur.toList.take done.length = done.map (Value.int .u8)∧Below B w wr
theorem Arr.below {M B:Nat} {w wr:World} {done:List Int} (h:Arr M B w wr done):Below B w wr:=by
  obtain ⟨_,_,_,_,_,_,h⟩:=h; exact h
theorem Arr.lt {M B:Nat} {w wr:World} {done:List Int} (h:Arr M B w wr done):B < wr.heap.size:=by
  obtain ⟨_,_,h,_⟩:=h; exact (Array.getElem?_eq_some_iff.1 h).1
theorem Arr.some {M B:Nat} {w wr:World} {done:List Int} (h:Arr M B w wr done) {j:Nat} (hj:j < M):∃ v,wr.cell? ⟨B,j,none⟩ = .some v:=by
  obtain ⟨cur,t,h1,h2,_⟩:=h
  exact ⟨_,(cell_of_row wr B j cur t (0,0) h1).trans (Array.getElem?_eq_getElem (by omega))⟩
theorem zbl {B:Nat} {a w:World} (h:Below B a w) (n:Nat):Below B a (w.drewN n):=h.trans ⟨rfl,rfl,rfl,Nat.le_refl _,fun _ _=>rfl⟩
def Bts (l:List Int):Prop:=∀ x ∈ l,0 ≤ x∧x ≤ 255
theorem bts_get {l:List Int} (h:Bts l) (k:Nat):0 ≤ l.getD k 0∧l.getD k 0 ≤ 255:=by
  by_cases hk:k < l.length
  · have e:l.getD k 0 = l[k]:=by simp [hk]
    rw [e]; exact h _ (List.getElem_mem hk)
  · simp [Nat.le_of_not_lt hk]
theorem rd_of_row {w:World} {a:Option Addr} {len cap:Nat} {zs:List Int}
    (h:(a = none∧len = 0∧cap = 0∧zs = []) ∨ ∃ x,a = some x∧len ≤ cap∧cap ≤ maxLen∧zs.length = cap∧(∀ i,i < zs.length→w.cell? (x.add i) = some (.int .u8 (zs.getD i 0)))∧∀ n ∈ zs,(Lit.int .u8 n).wf = true)
    (hl:len ≤ 1073741824):(zs.take len).length = len∧Rd w (.slice a len cap) (zs.take len)∧Bts (zs.take len):=by
  rcases h with ⟨rfl,rfl,rfl,rfl⟩ | ⟨x,rfl,h1,_,hz,hc,hw⟩
  · exact ⟨rfl,⟨none,0,rfl,by simp,fun h=>absurd rfl h⟩,fun x hx=>by simp at hx⟩
  · have hlen:(zs.take len).length = len:=by rw [List.length_take]; omega
    refine ⟨hlen,⟨some x,cap,by rw [hlen],by omega,fun hne=>?_⟩,fun n hn=>bounds_u8 (hw n (List.mem_of_mem_take hn))⟩
    have hp:0 < len:=by
      rcases Nat.eq_zero_or_pos len with h0 | h0
      · subst h0; simp at hne
      · exact h0
    obtain ⟨b,off,spot⟩:=x
    have h0:=hc 0 (by omega)
    have hspot:spot = none:=by simpa [Addr.add] using World.cell?_spot h0
    subst hspot
    refine ⟨b,off,rfl,fun i hi=>?_⟩
    rw [hlen] at hi
    have:=hc i (by omega)
    have e:(⟨b,off,none⟩:Addr).add i = ⟨b,off + i,none⟩:=by unfold Addr.add; split <;> simp_all
    rw [e] at this
    rw [this]
    have e2:(zs.take len).getD i 0 = zs.getD i 0:=by simp [hi]
    rw [e2]
theorem rd_below {B:Nat} {w w':World} {v:Value} {l:List Int} (h:Rd w v l) (hb:Below B w w') (hB:w.heap.size ≤ B):Rd w' v l:=by
  obtain ⟨a,cap,rfl,hl,hc⟩:=h
  refine ⟨a,cap,rfl,hl,fun hne=>?_⟩
  obtain ⟨b,off,rfl,hcell⟩:=hc hne
  exact ⟨b,off,rfl,fun i hi=>(hb.cell (p:=⟨b,off + i,none⟩) (Nat.lt_of_lt_of_le (World.block_lt_of_cell? w _ (hcell i hi)) hB)).trans (hcell i hi)⟩
end Go.Proofs.Ytaoaomipplmjcaa
namespace Go.Proofs.Ytaoaomipplmjcaa
open Go.RowKit

def nanB (x:Nat):Bool:=FloatKind.f64.format.order x x != some Ordering.eq
end Go.Proofs.Ytaoaomipplmjcaa
namespace Go.Proofs.Ytaoaomipplmjcaa
open Go.RowKit

theorem fbits (x:Nat) (w:World):(callFunc 79 #[.float .f64 x]).run Try.prog w = .ok (.value (.int .u64 x)) w:=by
  rw [run_callFunc_extern (e:=Extern.MathFloatBits.float64bits) Try.func79 (by kernel_rfl) (by kernel_rfl) (by kernel_rfl) (by kernel_rfl)]
  rfl
theorem isNaN_any (x:Nat) (w:World) :
    Calls Try.prog 78 #[.float .f64 x] w fun e w'=>e = .returned (.bool (nanB x))∧w' = w:=by
  go_enter Try.func78,Try.ntmps78
  go_wp2
  go_ret
  exact ⟨rfl,rfl⟩
end Go.Proofs.Ytaoaomipplmjcaa
namespace Go.Proofs.Ytaoaomipplmjcaa
open Go.RowKit

def fbit (x:Nat):Nat:=if nanB x = true then 9221120237041090560 else x
theorem floatBits_any (x:Nat) (w:World) :
    Calls Try.prog 75 #[.float .f64 x] w fun e w'=>e = .returned (.int .u64 (fbit x))∧w' = w:=by
  have hb:=fbits
  cases h:nanB x
  case true =>
    have HX:Hid (fbit x = 9221120237041090560):=if_pos h
    go_enter Try.func75,Try.ntmps75
    go_wp2_with (go_at_call 78; refine (isNaN_any _ _).mono ?_; rintro e w' ⟨rfl,rfl⟩)
    go_ret
    exact ⟨by rw [za HX]; rfl,rfl⟩
  case false =>
    have HX:Hid (fbit x = x):=if_neg (by rw [h]; decide)
    go_enter Try.func75,Try.ntmps75
    go_wp2_with (go_at_call 78; refine (isNaN_any _ _).mono ?_; rintro e w' ⟨rfl,rfl⟩)
    go_ret
    exact ⟨by rw [za HX]; rfl,rfl⟩
end Go.Proofs.Ytaoaomipplmjcaa
namespace Go.Proofs.Ytaoaomipplmjcaa
open Go Ieee

theorem fb:double.fractionBits = 52:=rfl
theorem lp:double.leastPlace = -1074:=by decide
theorem bin:double.binade = 4503599627370496:=by decide
theorem inf:double.infRung = 9218868437227405312:=by decide
theorem sw:double.signWeight = 9223372036854775808:=by decide
theorem read_mag {x:Nat} {s:Bool} {m:Nat} {i:Int} (h:double.read x = .number s m i):m < 9007199254740992:=by
  unfold Format.read at h
  simp only [bin,inf,sw] at h
  split at h
  · simp only [Datum.number.injEq] at h; omega
  · split at h
    · simp only [Datum.number.injEq] at h; omega
    · split at h <;> cases h
theorem read_zero:double.read 0 = .number false 0 (-1074):=by decide
theorem read_top:double.read 4687829947429945344 = .number false 8589934592000000 (-35):=by decide
theorem read_four:double.read 4616189618054758400 = .number false 4503599627370496 (-50):=by decide
theorem signed_neg (m a:Nat):signed true m a ≤ 0:=by
  show -((m <<< a:Nat):Int) ≤ 0
  exact Int.neg_nonpos_of_nonneg (Int.natCast_nonneg _)
theorem above_zero {x:Nat} (h:double.order x 0 = some .gt):double.read x = .infinity false ∨ ∃ m i,double.read x = .number false m i∧m ≠ 0:=by
  unfold Format.order at h
  rw [read_zero] at h
  cases hx:double.read x with
  | nan s f=>rw [hx] at h; simp [Datum.order] at h
  | infinity s=>cases s with
    | false=>exact .inl rfl
    | true=>rw [hx] at h; simp [Datum.order] at h
  | number s m i =>
    rw [hx] at h
    simp only [Datum.order,Option.some.injEq] at h
    have hz:∀ b,signed false 0 b = 0:=fun b=>by simp [signed]
    rw [hz] at h
    have hgt:=Std.compare_eq_gt.1 h
    cases s with
    | false =>
      refine .inr ⟨m,i,rfl,fun e=>?_⟩
      subst e
      rw [hz] at hgt
      exact absurd hgt (by decide)
    | true =>
      exact absurd hgt (Int.not_lt.2 (signed_neg m _))
theorem log_le {m k:Nat} (hm:m ≠ 0) (h:m < 2 ^ k):m.log2 < k:=(Nat.log2_lt hm).2 h
theorem within {m:Nat} {i:Int} {x:Nat} (hx:double.read x = .number false m i) (hm:m ≠ 0) (h:double.order x 4687829947429945344 = some .lt ∨ double.order x 4687829947429945344 = some .eq):i + m.log2 ≤ 17:=by
  have hmag:=read_mag hx
  unfold Format.order at h
  rw [read_top,hx] at h
  simp only [Datum.order,Option.some.injEq] at h
  have hle:signed false m (i - min i (-35)).toNat ≤ signed false 8589934592000000 (-35 - min i (-35)).toNat:=by
    rcases h with h | h
    · exact Int.le_of_lt (Std.compare_eq_lt.1 h)
    · exact Int.le_of_eq (Std.LawfulEqCmp.eq_of_compare h)
  by_cases hi:i < -35
  · have:=log_le hm (show m < 2 ^ 53 by omega)
    omega
  · have e1:min i (-35) = -35:=by omega
    rw [e1] at hle
    have e2:((-35:Int) - -35).toNat = 0:=by decide
    rw [e2] at hle
    have hle':(m <<< (i - -35).toNat:Nat) ≤ (8589934592000000 <<< 0:Nat):=by
      have:((m <<< (i - -35).toNat:Nat):Int) ≤ ((8589934592000000 <<< 0:Nat):Int):=hle
      omega
    rw [Nat.shiftLeft_eq,Nat.shiftLeft_zero] at hle'
    have hlog:m.log2 + (i - -35).toNat < 53:=by
      have h1:2 ^ m.log2 ≤ m:=Nat.log2_self_le hm
      have h2:2 ^ (m.log2 + (i - -35).toNat) ≤ m * 2 ^ (i - -35).toNat:=by
        rw [Nat.pow_add]; exact Nat.mul_le_mul_right _ h1
      have h3:2 ^ (m.log2 + (i - -35).toNat) < 2 ^ 53:=by omega
      exact (Nat.pow_lt_pow_iff_right (by decide)).1 h3
    omega
theorem log_up {m:Nat} (hm:m ≠ 0):(m * 4503599627370496).log2 = m.log2 + 52:=by
  have h:=(Nat.log2_eq_iff hm).1 rfl
  refine (Nat.log2_eq_iff (by omega)).2 ?_
  rw [Nat.pow_add,show m.log2 + 52 + 1 = (m.log2 + 1) + 52 by omega,Nat.pow_add 2 (m.log2 + 1) 52,show (2:Nat) ^ 52 = 4503599627370496 from rfl]
  exact ⟨Nat.mul_le_mul_right _ h.1,Nat.mul_lt_mul_of_pos_right h.2 (by decide)⟩
theorem cut_le (n p drop:Nat) (hn:n < 2 ^ (p + 53)) (hp:p ≤ drop) (hl:p ≤ n.log2 + 2):Toward.even.cut false n drop ≤ 9007199254740993:=by
  unfold Toward.cut
  simp only
  have hg:2 ^ p ≤ 1 <<< min drop (n.log2 + 2):=by
    rw [Nat.one_shiftLeft]
    exact Nat.pow_le_pow_right (by decide) (by omega)
  have hq:n / (1 <<< min drop (n.log2 + 2)) ≤ 9007199254740992:=by
    refine Nat.le_trans (Nat.div_le_div_left hg (Nat.two_pow_pos p)) ?_
    have:n / 2 ^ p < 2 ^ 53:=by
      rw [Nat.div_lt_iff_lt_mul (Nat.two_pow_pos p),← Nat.pow_add,Nat.add_comm]
      exact hn
    omega
  have hb:∀ b:Bool,b.toNat ≤ 1:=by decide
  have:=hb (decide (1 <<< min drop (n.log2 + 2) < 2 * (n % 1 <<< min drop (n.log2 + 2))) || (1 <<< min drop (n.log2 + 2) == 2 * (n % 1 <<< min drop (n.log2 + 2)) && n / 1 <<< min drop (n.log2 + 2) % 2 == 1))
  omega
theorem near_le {m:Nat} {i:Int} (hm:m ≠ 0) (hi:i + m.log2 ≤ 17):double.nearest false (m * 4503599627370496) (i + -50) < 1075 * 4503599627370496:=by
  have hmag:¬ m * 4503599627370496 = 0:=by omega
  have hlog:=log_up hm
  have hlt:m * 4503599627370496 < 2 ^ (m.log2 + 53):=by
    have h:=((Nat.log2_eq_iff hm).1 rfl).2
    rw [show m.log2 + 53 = (m.log2 + 1) + 52 by omega,Nat.pow_add 2 (m.log2 + 1) 52,show (2:Nat) ^ 52 = 4503599627370496 from rfl]
    exact Nat.mul_lt_mul_of_pos_right h (by decide)
  unfold Format.nearest
  rw [if_neg hmag]
  simp only [hlog,fb,lp,bin,inf,Format.word,Bool.false_eq_true,if_false]
  have hlast:i + -50 + ((m.log2 + 52:Nat):Int) - (52:Nat) ≤ max (i + -50 + ((m.log2 + 52:Nat):Int) - (52:Nat)) (-1074):=Int.le_max_left _ _
  have hup:max (i + -50 + ((m.log2 + 52:Nat):Int) - (52:Nat)) (-1074) ≤ -33:=Int.max_le.2 ⟨by omega,by omega⟩
  generalize max (i + -50 + ((m.log2 + 52:Nat):Int) - (52:Nat)) (-1074) = last at *
  have e0:(i + -50 - last).toNat = 0:=by omega
  rw [e0,Nat.shiftLeft_zero]
  have hc:=cut_le (m * 4503599627370496) m.log2 (last - (i + -50)).toNat hlt (by omega) (by omega)
  generalize Toward.even.cut false (m * 4503599627370496) (last - (i + -50)).toNat = kept at *
  have e1:(last - -1074).toNat ≤ 1041:=by omega
  have e2:(last - -1074).toNat * 4503599627370496 ≤ 1041 * 4503599627370496:=Nat.mul_le_mul_right _ e1
  omega
theorem whole {r:Nat} (h:r < 1075 * 4503599627370496):∃ n:Nat,(double.read r).toInt .zero = some (n:Int)∧n < 9007199254740992:=by
  have hneg:(r / 9223372036854775808 % 2 == 1) = false:=by simp; omega
  have hr:r % 9223372036854775808 = r:=by omega
  have cutz:∀ (n d:Nat),Toward.zero.cut false n d ≤ n:=by
    intro n d
    unfold Toward.cut
    simp only [Bool.toNat_false,Nat.add_zero]
    exact Nat.div_le_self _ _
  unfold Format.read
  simp only [bin,inf,sw,hneg,hr,lp]
  split
  · refine ⟨Toward.zero.cut false (r <<< (-1074:Int).toNat) (1074:Int).toNat,?_,?_⟩
    · simp [Datum.toInt,Datum.integral,signed]
    · have:=cutz (r <<< (-1074:Int).toNat) (1074:Int).toNat
      rw [show (-1074:Int).toNat = 0 from rfl,Nat.shiftLeft_zero] at this ⊢
      omega
  · rw [if_pos (by omega)]
    have hi:(-1074 + ((r / 4503599627370496 - 1:Nat):Int)).toNat = 0:=by omega
    refine ⟨Toward.zero.cut false ((4503599627370496 + r % 4503599627370496) <<< (-1074 + ((r / 4503599627370496 - 1:Nat):Int)).toNat) (-(-1074 + ((r / 4503599627370496 - 1:Nat):Int))).toNat,?_,?_⟩
    · simp [Datum.toInt,Datum.integral,signed]
    · have:=cutz ((4503599627370496 + r % 4503599627370496) <<< (-1074 + ((r / 4503599627370496 - 1:Nat):Int)).toNat) (-(-1074 + ((r / 4503599627370496 - 1:Nat):Int))).toNat
      rw [hi,Nat.shiftLeft_zero] at this ⊢
      omega
theorem price_four {x:Nat} (h0:double.order x 0 = some .gt) (h1:double.order x 4687829947429945344 = some .lt ∨ double.order x 4687829947429945344 = some .eq) :
    ∃ (r n:Nat),double.mul x 4616189618054758400 = some r∧(double.read r).toInt .zero = some (n:Int)∧n < 9007199254740992:=by
  rcases above_zero h0 with hx | ⟨m,i,hx,hm⟩
  · exfalso
    unfold Format.order at h1
    rw [hx,read_top] at h1
    simp [Datum.order] at h1
  · have hw:=within hx hm h1
    have hmul:double.mul x 4616189618054758400 = some (double.nearest false (m * 4503599627370496) (i + -50)):=by
      unfold Format.mul
      rw [hx,read_four]
      rfl
    obtain ⟨n,h2,h3⟩:=whole (near_le hm hw)
    exact ⟨_,n,hmul,h2,h3⟩
end Go.Proofs.Ytaoaomipplmjcaa
