/-
  The engine's small functions, by the program: proved by walking them.
-/
import Derived.Test.YtaoaomipplmjcaaDj01
import Derived.Handy
import Derived.Deep.MidRow
import Derived.WalkLawsBesides
namespace Go.Proofs.Ytaoaomipplmjcaa
open Go.RowKit
set_option linter.unusedVariables false

def tkR (x:Nat):Nat:=(FloatKind.f64.format.mul x 4616189618054758400).getD 0
def tkN (x:Nat):Int:=((FloatKind.f64.decode (tkR x)).toInt .zero).getD 0
def tkOk (x:Nat):Bool:=(FloatKind.f64.format.order x 0 == some Ordering.gt) && ((FloatKind.f64.format.order x 4687829947429945344 == some Ordering.lt) || (FloatKind.f64.format.order x 4687829947429945344 == some Ordering.eq)) &&
 (FloatKind.f64.format.order (floatOfInt .f64 (tkN x)) (tkR x) == some Ordering.eq)
def tk (x:Nat):Int:=if tkOk x = true then tkN x else 0
set_option maxRecDepth 100000 in
set_option maxHeartbeats 1000000 in
theorem zax (x:Nat) (w:World) :
  Calls Try.prog 76 #[.float .f64 x] w fun e w'=>e = .returned (.tuple #[.int .i64 (tk x),.bool (tkOk x)])∧w' = w:=by
 by_cases h0:FloatKind.f64.format.order x 0 = some Ordering.gt
 ·by_cases h1:FloatKind.f64.format.order x 4687829947429945344 = some Ordering.lt ∨ FloatKind.f64.format.order x 4687829947429945344 = some Ordering.eq
  ·obtain ⟨r,n,hmul,hint,hn⟩:=price_four h0 h1
   have hn':(n:Int) < 9007199254740992:=by omega
   have eR:tkR x = r:=by unfold tkR; rw [show FloatKind.f64.format.mul x 4616189618054758400 = some r from hmul]; rfl
   have eN:tkN x = n:=by unfold tkN; rw [eR,show (FloatKind.f64.decode r).toInt .zero = some (n:Int) from hint]; rfl
   have b0:(FloatKind.f64.format.order x 0 == some Ordering.gt) = true:=by rw [h0]; rfl
   have hm:∀ W,(binOp .mul 30 (.float .f64 x) (.float .f64 4616189618054758400)).run Try.prog W = .ok (.float .f64 r) W:=fun W=>by
    have:FloatKind.f64.format.mul x 4616189618054758400 = some r:=hmul
    simp [binOp,Op.floatArith,this]
   have hc:∀ W,(convert 30 3 (.float .f64 r)).run Try.prog W = .ok (.int .i64 n) W:=fun W=>by
    have h2:(FloatKind.f64.decode r).toInt .zero = some (n:Int):=hint
    have hb:IntKind.i64.min ≤ (n:Int)∧(n:Int) ≤ IntKind.i64.max:=by
     rw [show IntKind.i64.min = -9223372036854775808 by decide,show IntKind.i64.max = 9223372036854775807 by decide]; omega
    simp [convert,run_underlying Try.underlying30,run_underlying Try.underlying3,Conv.floatToInt,h2,hb.1]
    intro h
    omega
   have h12:((FloatKind.f64.format.order x 4687829947429945344 == some Ordering.lt) || (FloatKind.f64.format.order x 4687829947429945344 == some Ordering.eq)) = true:=by
    rcases h1 with h1 | h1 <;> rw [h1] <;> rfl
   have hok:tkOk x = (FloatKind.f64.format.order (floatOfInt .f64 n) r == some Ordering.eq):=by unfold tkOk; rw [eN,eR,b0,h12]; rfl
   clear hmul hint h0 h12
   cases he:(FloatKind.f64.format.order (floatOfInt .f64 n) r == some Ordering.eq)
   all_goals
    have he2:(FloatKind.f64.format.order (floatOfInt .f64 n) r != some Ordering.eq) = !(FloatKind.f64.format.order (floatOfInt .f64 n) r == some Ordering.eq):=rfl
    rw [he] at he2
    rw [he] at hok
   ·have HT:Hid (tk x = 0∧tkOk x = false):=⟨by unfold tk; rw [hok]; rfl,hok⟩
    clear hok eN eR
    rcases h1 with h1 | h1
    ·have b1:(FloatKind.f64.format.order x 4687829947429945344 == some Ordering.lt) = true:=by rw [h1]; rfl
     have b2:(FloatKind.f64.format.order x 4687829947429945344 == some Ordering.eq) = false:=by rw [h1]; rfl
     clear h1
     go_enter Try.func76,Try.ntmps76
     go_wp2
     go_ret2
     exact ⟨by rw [(za HT).1,(za HT).2]; rfl,rfl⟩
    ·have b1:(FloatKind.f64.format.order x 4687829947429945344 == some Ordering.lt) = false:=by rw [h1]; rfl
     have b2:(FloatKind.f64.format.order x 4687829947429945344 == some Ordering.eq) = true:=by rw [h1]; rfl
     clear h1
     go_enter Try.func76,Try.ntmps76
     go_wp2
     go_ret2
     exact ⟨by rw [(za HT).1,(za HT).2]; rfl,rfl⟩
   ·have HT:Hid (tk x = n∧tkOk x = true):=⟨by unfold tk; rw [hok,eN]; rfl,hok⟩
    clear hok eN eR
    rcases h1 with h1 | h1
    ·have b1:(FloatKind.f64.format.order x 4687829947429945344 == some Ordering.lt) = true:=by rw [h1]; rfl
     have b2:(FloatKind.f64.format.order x 4687829947429945344 == some Ordering.eq) = false:=by rw [h1]; rfl
     clear h1
     go_enter Try.func76,Try.ntmps76
     go_wp2
     go_ret2
     exact ⟨by rw [(za HT).1,(za HT).2]; rfl,rfl⟩
    ·have b1:(FloatKind.f64.format.order x 4687829947429945344 == some Ordering.lt) = false:=by rw [h1]; rfl
     have b2:(FloatKind.f64.format.order x 4687829947429945344 == some Ordering.eq) = true:=by rw [h1]; rfl
     clear h1
     go_enter Try.func76,Try.ntmps76
     go_wp2
     go_ret2
     exact ⟨by rw [(za HT).1,(za HT).2]; rfl,rfl⟩
  ·have b0:(FloatKind.f64.format.order x 0 == some Ordering.gt) = true:=by rw [h0]; rfl
   have b1:(FloatKind.f64.format.order x 4687829947429945344 == some Ordering.lt) = false:=by rw [beq_eq_false_iff_ne]; exact fun h=>h1 (.inl h)
   have b2:(FloatKind.f64.format.order x 4687829947429945344 == some Ordering.eq) = false:=by rw [beq_eq_false_iff_ne]; exact fun h=>h1 (.inr h)
   have hok:tkOk x = false:=by unfold tkOk; rw [b0,b1,b2]; rfl
   have HT:Hid (tk x = 0∧tkOk x = false):=⟨by unfold tk; rw [hok]; rfl,hok⟩
   clear h0 h1 hok
   go_enter Try.func76,Try.ntmps76
   go_wp2
   go_ret2
   exact ⟨by rw [(za HT).1,(za HT).2]; rfl,rfl⟩
 ·have b0:(FloatKind.f64.format.order x 0 == some Ordering.gt) = false:=by rw [beq_eq_false_iff_ne]; exact h0
  have hok:tkOk x = false:=by unfold tkOk; rw [b0]; rfl
  have HT:Hid (tk x = 0∧tkOk x = false):=⟨by unfold tk; rw [hok]; rfl,hok⟩
  clear h0 hok
  go_enter Try.func76,Try.ntmps76
  go_wp2
  go_ret2
  exact ⟨by rw [(za HT).1,(za HT).2]; rfl,rfl⟩
end Go.Proofs.Ytaoaomipplmjcaa
namespace Go.Proofs.Ytaoaomipplmjcaa
open Go.RowKit

theorem zb {C:Nat} {w w':World} {b o:Nat} {cs:List Value} (h:w.rangeAt b o cs) (hb:Below C w w') (hC:b < C):w'.rangeAt b o cs :=
  fun j v hv=>(hb.cell (p:=⟨b,o + j,none⟩) hC).trans (h j v hv)
theorem zr {C:Nat} {w w':World} {b o n:Nat} (h:w.there b o n) (hb:Below C w w') (hC:b < C):w'.there b o n :=
  fun j hj=>⟨by rw [hb.cell (p:=⟨b,o + j,none⟩) hC]; exact (h j hj).1,by rw [hb.frozen (p:=⟨b,o + j,none⟩) hC]; exact (h j hj).2⟩
theorem zy {G:Option Nat} {w w':World} {b o:Nat} {cs:List Value} (h:w.rangeAt b o cs) (hg:w.grownBy w' G) (hb:b < w.heap.size) (hne:some b ≠ G):w'.rangeAt b o cs :=
  fun j v hv=>(World.cell?_of_block (a:=⟨b,o + j,none⟩) (hg.block b hb hne)).trans (h j v hv)
theorem zz {G:Option Nat} {w w':World} {b o n:Nat} (h:w.there b o n) (hg:w.grownBy w' G) (hb:b < w.heap.size) (hne:some b ≠ G):w'.there b o n :=
  fun j hj=>⟨by rw [World.cell?_of_block (a:=⟨b,o + j,none⟩) (hg.block b hb hne)]; exact (h j hj).1,by rw [World.frozen?_of_block (a:=⟨b,o + j,none⟩) (hg.block b hb hne)]; exact (h j hj).2⟩
theorem zQ {w w':World} {B:Nat} {G:Option Nat} (h:Below B w w') (hB:w.heap.size ≤ B):w.grownBy w' G :=
  ⟨h.os,h.tape,h.output,h.size,fun k hk _=>h.block k (by omega)⟩
section
variable {α:Type} (f:α→List Value) (sz:Nat)

def RdR (w:World) (v:Value) (l:List α):Prop :=
  ∃ (a:Option Addr) (cap:Nat),v = .slice a l.length cap∧l.length ≤ 1073741824 ∧
    (l ≠ []→∃ b off,a = some ⟨b,off,none⟩∧b < w.heap.size∧∀ i c,l[i]? = some c→w.rangeAt b (off + i * sz) (f c))
def OwnR (B:Nat) (w:World) (v:Value) (l:List α):Prop :=
  ∃ (a:Option Addr) (cap:Nat),v = .slice a l.length cap∧l.length ≤ 1073741824 ∧
    (l ≠ []→∃ g,a = some ⟨g,0,none⟩∧B ≤ g∧g < w.heap.size∧(∀ i c,l[i]? = some c→w.rangeAt g (0 + i * sz) (f c))∧w.there g 0 (l.length * sz))
variable {f sz}

theorem ownR_rd {B:Nat} {w:World} {v:Value} {l:List α} (h:OwnR f sz B w v l):RdR f sz w v l:=by
  obtain ⟨a,cap,rfl,hl,h⟩:=h
  refine ⟨a,cap,rfl,hl,fun hne=>?_⟩
  obtain ⟨g,rfl,_,h2,h3,_⟩:=h hne
  exact ⟨g,0,rfl,h2,h3⟩
theorem zm {C:Nat} {w w':World} {v:Value} {l:List α} (h:RdR f sz w v l) (hb:Below C w w') (hC:w.heap.size ≤ C):RdR f sz w' v l:=by
  obtain ⟨a,cap,rfl,hl,h⟩:=h
  refine ⟨a,cap,rfl,hl,fun hne=>?_⟩
  obtain ⟨b,off,rfl,h1,h2⟩:=h hne
  exact ⟨b,off,rfl,Nat.lt_of_lt_of_le h1 hb.size,fun i c hc=>zb (h2 i c hc) hb (Nat.lt_of_lt_of_le h1 hC)⟩
theorem zV {B:Nat} {w:World} (b:Nat) (hb:B ≤ b):∀ (vs:List Value) (o:Nat) (wr:World),Below B w wr→Below B w (wr.setCells b o vs)
  | [],_,_,h=>h
  | v :: r,o,wr,h=>by rw [World.setCells]; exact zV b hb r (o + 1) _ (h.setCell (show B ≤ (⟨b,o,none⟩:Addr).block from hb) v)
theorem zay (b:Nat):∀ (vs:List Value) (o:Nat) (wr:World),(wr.setCells b o vs).heap.size = wr.heap.size
  | [],_,_=>rfl
  | v :: r,o,wr=>by rw [World.setCells,zay b r (o + 1)]; simp [World.setCell]
theorem zah {w:World} {g n t:Nat} {cur:Array Value} (hg:w.heap[g]? = some (.cells cur t (0,0))) (hn:n ≤ cur.size):w.there g 0 n:=fun j hj =>
  ⟨by rw [cell_of_row w g (0 + j) cur t (0,0) hg,Array.getElem?_eq_getElem (by omega)]; rfl,by simp [World.frozen?,hg]⟩
theorem flat_get (hf:∀ c,(f c).length = sz):∀ (l:List α) (i j:Nat) (c:α),l[i]? = some c→j < sz→(l.flatMap f)[i * sz + j]? = (f c)[j]?
  | [],_,_,_,h,_=>by simp at h
  | a :: l,0,j,c,h,hj=>by
    simp at h; subst h
    rw [List.flatMap_cons,List.getElem?_append_left (by rw [hf]; omega)]; simp
  | a :: l,i + 1,j,c,h,hj=>by
    simp at h
    rw [List.flatMap_cons,List.getElem?_append_right (by rw [hf,Nat.add_mul]; omega),hf,← flat_get hf l i j c h hj]
    congr 1
    rw [Nat.add_mul]; omega
theorem zP (hf:∀ c,(f c).length = sz):∀ (l:List α),(l.flatMap f).length = l.length * sz
  | []=>by simp
  | a :: l=>by rw [List.flatMap_cons,List.length_append,hf,zP hf l,List.length_cons,Nat.add_mul]; omega
theorem zar {B e:Nat} {w:World} {v:Value} {l:List α} (hf:∀ c,(f c).length = sz) (hl:l.length ≤ 1073741824) (h:w.ownsRow B e sz v l.length (l.flatMap f)):OwnR f sz B w v l:=by
  rcases h.2 with ⟨rfl,h0⟩ | ⟨g,cap,cur,rfl,hb,hg,hcap,_,hcur,htake⟩
  · exact ⟨none,0,by rw [h0],hl,fun hne=>absurd (List.length_eq_zero_iff.1 h0) hne⟩
  · have hle:=Nat.mul_le_mul_right sz hcap
    refine ⟨_,cap,rfl,hl,fun _=>⟨g,rfl,hb,(Array.getElem?_eq_some_iff.1 hg).1,fun i c hc j u hu=>?_,zah hg (by omega)⟩⟩
    have hj:j < sz:=by rw [← hf c]; exact (List.getElem?_eq_some_iff.1 hu).1
    have h2:=flat_get hf l i j c hc hj
    have hlt:i * sz + j < l.length * sz:=by
      have:=Nat.mul_le_mul_right sz (show i + 1 ≤ l.length from (List.getElem?_eq_some_iff.1 hc).1)
      rw [Nat.add_mul] at this; omega
    rw [← htake,List.getElem?_take,if_pos hlt] at h2
    rw [cell_of_row w g _ cur e (0,0) hg,Nat.zero_add]
    simpa using h2.trans hu
end
end Go.Proofs.Ytaoaomipplmjcaa
namespace Go.Proofs.Ytaoaomipplmjcaa
open Go.RowKit
set_option linter.unusedVariables false

structure Cm where
  k:Int
  s:Int
  t:Int
  l:Int
  q:Int
  i:Int
  p:Nat
  g:ByteArray
def Cm.vs (c:Cm):List Value:=[.int .i64 c.k,.int .i64 c.s,.int .i64 c.t,.int .i64 c.l,.int .i64 c.q,.int .i64 c.i,.float .f64 c.p,.string c.g]
theorem Cm.len (c:Cm):c.vs.length = 8:=rfl
theorem cm_cells {w:World} {b o:Nat} {c:Cm} (h:w.rangeAt b o c.vs) :
    w.cell? ⟨b,o,none⟩ = some (.int .i64 c.k)∧w.cell? ⟨b,o + 1,none⟩ = some (.int .i64 c.s)∧w.cell? ⟨b,o + 2,none⟩ = some (.int .i64 c.t)∧w.cell? ⟨b,o + 3,none⟩ = some (.int .i64 c.l) ∧
    w.cell? ⟨b,o + 4,none⟩ = some (.int .i64 c.q)∧w.cell? ⟨b,o + 5,none⟩ = some (.int .i64 c.i)∧w.cell? ⟨b,o + 6,none⟩ = some (.float .f64 c.p)∧w.cell? ⟨b,o + 7,none⟩ = some (.string c.g) :=
  ⟨h 0 _ rfl,h 1 _ rfl,h 2 _ rfl,h 3 _ rfl,h 4 _ rfl,h 5 _ rfl,h 6 _ rfl,h 7 _ rfl⟩
theorem zq {w:World} {b o n:Nat} (h:w.there b o n) (j:Nat) (hj:j < n):∃ v,w.cell? ⟨b,o + j,none⟩ = some v∧w.frozen? ⟨b,o + j,none⟩ = false:=by
  obtain ⟨v,hv⟩:=Option.isSome_iff_exists.1 (h j hj).1
  exact ⟨v,hv,(h j hj).2⟩
theorem sfl (a:Addr) (x:Nat) (m:Mode) (w:World):(store a (.float .f64 x) m).run Try.prog w = stored Try.prog w a (.float .f64 x) m:=run_store _ w a _ m rfl
end Go.Proofs.Ytaoaomipplmjcaa
