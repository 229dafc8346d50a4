/-
  Small facts that all walks of this seat lean on: facts kept from the walk, an ending's value, a text's bytes as a list.
-/
import Derived.Test.YtddhdkopgimieaaGreatRows
import Derived.WalkKit
import Derived.Below
import Derived.OpenShut
import Derived.Deep.QuietTactic
import Derived.BigQuiet
import Derived.WalkSmall
import Derived.WalkSpells
import Derived.Deep.MidRow
import Derived.Handy
import Derived.WalkLawsBesides
import Derived.Laws.Externs
import GoSem.Core.Float
namespace Go.Proofs.YtddhdkopgimieaaGreat
open Go.RowKit

theorem hide {p:Prop} (h:p):Hid p:=h
theorem za {p:Prop} (h:Hid p):p:=h
theorem zl {a b:Bool} (h:a = b):Ending.returned (.bool a) = .returned (.bool b):=by rw [h]
theorem zo {k:IntKind} {a b:Int} (h:a = b):Ending.returned (.int k a) = .returned (.int k b):=by rw [h]
theorem get_nat (s:ByteArray) (k:Nat) (h:k < s.size):s[k] = s.data.toList[k]'(by simpa using h):=rfl
theorem data_len (s:ByteArray):s.data.toList.length = s.size:=by simp
end Go.Proofs.YtddhdkopgimieaaGreat
/-
  Rows of bytes in memory, those that came in and those that the call made: what they read as, and what stays of them; small facts on worlds, no function walked.
-/
namespace Go.Proofs.YtddhdkopgimieaaGreat
open Go.RowKit

def Rd (w:World) (v:Value) (l:List Int):Prop :=
  ∃ (a:Option Addr) (cap:Nat),v = .slice a l.length cap∧l.length ≤ 1073741824 ∧
    (l ≠ []→∃ b off,a = some ⟨b,off,none⟩∧∀ i,i < l.length→w.cell? ⟨b,off + i,none⟩ = some (.int .u8 (l.getD i 0)))
theorem gr_trans {a b c:World} {row:Option Nat} (h:a.grownBy b row) (k:b.grownBy c row):a.grownBy c row :=
  ⟨k.os.trans h.os,k.tape.trans h.tape,k.output.trans h.output,Nat.le_trans h.size k.size,
    fun i hi hne=>(k.block i (Nat.lt_of_lt_of_le hi h.size) hne).trans (h.block i hi hne)⟩
theorem gr_set (w:World) (a:Addr) (u:Value):w.grownBy (w.setCell a u) (some a.block) :=
  ⟨rfl,rfl,rfl,by simp [World.setCell],fun k _ hne=>Below.heap_setCell _ _ _ _ (fun e=>hne (by rw [e]))⟩
theorem zS {g a b:Nat} (h:a ≠ b):(⟨g,a,none⟩:Addr) ≠ ⟨g,b,none⟩:=by
  intro e; injection e; exact h (by assumption)
def Own (B:Nat) (w:World) (v:Value) (l:List Int):Prop :=
  ∃ g cap,v = .slice (some ⟨g,0,none⟩) l.length cap∧B ≤ g∧g < w.heap.size∧l.length ≤ 1073741824 ∧
    (∀ i,i < l.length→w.cell? ⟨g,0 + i,none⟩ = some (.int .u8 (l.getD i 0)))∧∀ i,i < l.length→w.frozen? ⟨g,0 + i,none⟩ = false
def OwnT (B:Nat) (w:World) (v:Value) (l:List Int):Prop :=
  ∃ g cap cur t,v = .slice (some ⟨g,0,none⟩) l.length cap∧B ≤ g∧w.heap[g]? = some (.cells cur t (0,0))∧l.length ≤ cap∧cap ≤ cur.size∧cap ≤ maxLen∧l.length ≤ 1073741824 ∧
    cur.toList.take l.length = l.map (Value.int .u8)
theorem cell_head {w:World} {g t:Nat} {cur:Array Value} {l:List Int} (hg:w.heap[g]? = some (.cells cur t (0,0))) (ht:cur.toList.take l.length = l.map (Value.int .u8)) {i:Nat} (hi:i < l.length) :
    w.cell? ⟨g,i,none⟩ = some (.int .u8 (l.getD i 0)):=by
  rw [cell_of_row w g i cur t (0,0) hg]
  have h1:(cur.toList.take l.length)[i]? = (l.map (Value.int .u8))[i]?:=by rw [ht]
  rw [List.getElem?_take,if_pos hi,List.getElem?_map,List.getElem?_eq_getElem hi] at h1
  simpa [hi] using h1
theorem OwnT.own {B:Nat} {w:World} {v:Value} {l:List Int} (h:OwnT B w v l):Own B w v l:=by
  obtain ⟨g,cap,cur,t,rfl,hb,hg,_,_,_,hl,ht⟩:=h
  exact ⟨g,cap,rfl,hb,(Array.getElem?_eq_some_iff.1 hg).1,hl,fun i hi=>by rw [Nat.zero_add]; exact cell_head hg ht hi,fun i _=>by simp [World.frozen?,hg]⟩
def Arr (M B:Nat) (w wr:World) (done:List Int):Prop :=
  ∃ cur t,wr.heap[B]? = some (.cells cur t (0,0))∧cur.size = M∧done.length ≤ M∧cur.toList.take done.length = done.map (Value.int .u8)∧Below B w wr
theorem Arr.below {M B:Nat} {w wr:World} {done:List Int} (h:Arr M B w wr done):Below B w wr:=by
  obtain ⟨_,_,_,_,_,_,h⟩:=h; exact h
theorem Arr.lt {M B:Nat} {w wr:World} {done:List Int} (h:Arr M B w wr done):B < wr.heap.size:=by
  obtain ⟨_,_,h,_⟩:=h; exact (Array.getElem?_eq_some_iff.1 h).1
theorem Arr.some {M B:Nat} {w wr:World} {done:List Int} (h:Arr M B w wr done) {j:Nat} (hj:j < M):∃ v,wr.cell? ⟨B,j,none⟩ = .some v:=by
  obtain ⟨cur,t,h1,h2,_⟩:=h
  exact ⟨_,(cell_of_row wr B j cur t (0,0) h1).trans (Array.getElem?_eq_getElem (by omega))⟩
theorem zav {B:Nat} {a w:World} (h:Below B a w) (n:Nat):Below B a (w.drewN n):=h.trans ⟨rfl,rfl,rfl,Nat.le_refl _,fun _ _=>rfl⟩
theorem take_get (l:List Int) (k:Nat) (h:k < l.length):l.take (k + 1) = l.take k ++ [l.getD k 0]:=by
  rw [List.take_succ_eq_append_getElem h]; simp [h]
end Go.Proofs.YtddhdkopgimieaaGreat
/-
  Rows of records in memory (slices of structs), those that came in and those that the call made: what they read as, and what stays of them; no function walked.
-/
namespace Go.Proofs.YtddhdkopgimieaaGreat
open Go.RowKit

theorem zb {C:Nat} {w w':World} {b o:Nat} {cs:List Value} (h:w.rangeAt b o cs) (hb:Below C w w') (hC:b < C):w'.rangeAt b o cs :=
  fun j v hv=>(hb.cell (p:=⟨b,o + j,none⟩) hC).trans (h j v hv)
theorem zf {C:Nat} {w w':World} {b o n:Nat} (h:w.there b o n) (hb:Below C w w') (hC:b < C):w'.there b o n :=
  fun j hj=>⟨by rw [hb.cell (p:=⟨b,o + j,none⟩) hC]; exact (h j hj).1,by rw [hb.frozen (p:=⟨b,o + j,none⟩) hC]; exact (h j hj).2⟩
theorem zu {G:Option Nat} {w w':World} {b o:Nat} {cs:List Value} (h:w.rangeAt b o cs) (hg:w.grownBy w' G) (hb:b < w.heap.size) (hne:some b ≠ G):w'.rangeAt b o cs :=
  fun j v hv=>(World.cell?_of_block (a:=⟨b,o + j,none⟩) (hg.block b hb hne)).trans (h j v hv)
theorem zaE {G:Option Nat} {w w':World} {b o n:Nat} (h:w.there b o n) (hg:w.grownBy w' G) (hb:b < w.heap.size) (hne:some b ≠ G):w'.there b o n :=
  fun j hj=>⟨by rw [World.cell?_of_block (a:=⟨b,o + j,none⟩) (hg.block b hb hne)]; exact (h j hj).1,by rw [World.frozen?_of_block (a:=⟨b,o + j,none⟩) (hg.block b hb hne)]; exact (h j hj).2⟩
theorem zac {w w':World} {B:Nat} {G:Option Nat} (h:Below B w w') (hB:w.heap.size ≤ B):w.grownBy w' G :=
  ⟨h.os,h.tape,h.output,h.size,fun k hk _=>h.block k (by omega)⟩
theorem zbC {w w':World} {G:Option Nat} {B:Nat} (h:w.grownBy w' G) (hG:∀ g,G = some g→B ≤ g) (hs:B ≤ w.heap.size):Below B w w' :=
  ⟨h.os,h.tape,h.output,h.size,fun k hk=>h.block k (by omega) (fun e=>by have:=hG k e.symm; omega)⟩
section
variable {α:Type} (f:α→List Value) (sz:Nat)

def RdR (w:World) (v:Value) (l:List α):Prop :=
  ∃ (a:Option Addr) (cap:Nat),v = .slice a l.length cap∧l.length ≤ 1073741824 ∧
    (l ≠ []→∃ b off,a = some ⟨b,off,none⟩∧b < w.heap.size∧∀ i c,l[i]? = some c→w.rangeAt b (off + i * sz) (f c))
def OwnR (B:Nat) (w:World) (v:Value) (l:List α):Prop :=
  ∃ (a:Option Addr) (cap:Nat),v = .slice a l.length cap∧l.length ≤ 1073741824 ∧
    (l ≠ []→∃ g,a = some ⟨g,0,none⟩∧B ≤ g∧g < w.heap.size∧(∀ i c,l[i]? = some c→w.rangeAt g (0 + i * sz) (f c))∧w.there g 0 (l.length * sz))
def FillR (n B:Nat) (w wr:World) (done:List α):Prop :=
  B < wr.heap.size∧done.length ≤ n∧(∀ i c,done[i]? = some c→wr.rangeAt B (0 + i * sz) (f c))∧wr.there B 0 (n * sz)∧Below B w wr
variable {f sz}

theorem zas {B:Nat} {w:World} {v:Value} {l:List α} (h:OwnR f sz B w v l):RdR f sz w v l:=by
  obtain ⟨a,cap,rfl,hl,h⟩:=h
  refine ⟨a,cap,rfl,hl,fun hne=>?_⟩
  obtain ⟨g,rfl,_,h2,h3,_⟩:=h hne
  exact ⟨g,0,rfl,h2,h3⟩
theorem zj {C:Nat} {w w':World} {v:Value} {l:List α} (h:RdR f sz w v l) (hb:Below C w w') (hC:w.heap.size ≤ C):RdR f sz w' v l:=by
  obtain ⟨a,cap,rfl,hl,h⟩:=h
  refine ⟨a,cap,rfl,hl,fun hne=>?_⟩
  obtain ⟨b,off,rfl,h1,h2⟩:=h hne
  exact ⟨b,off,rfl,Nat.lt_of_lt_of_le h1 hb.size,fun i c hc=>zb (h2 i c hc) hb (Nat.lt_of_lt_of_le h1 hC)⟩
theorem zN {B C:Nat} {w w':World} {v:Value} {l:List α} (h:OwnR f sz B w v l) (hb:Below C w w') (hC:w.heap.size ≤ C):OwnR f sz B w' v l:=by
  obtain ⟨a,cap,rfl,hl,h⟩:=h
  refine ⟨a,cap,rfl,hl,fun hne=>?_⟩
  obtain ⟨g,rfl,h0,h1,h2,h3⟩:=h hne
  exact ⟨g,rfl,h0,Nat.lt_of_lt_of_le h1 hb.size,fun i c hc=>zb (h2 i c hc) hb (Nat.lt_of_lt_of_le h1 hC),zf h3 hb (Nat.lt_of_lt_of_le h1 hC)⟩
theorem ownR_grown {B:Nat} {G:Option Nat} {w w':World} {v:Value} {l:List α} (h:OwnR f sz B w v l) (hg:w.grownBy w' G) (hne':l ≠ []→v.ownBlock ≠ G):OwnR f sz B w' v l:=by
  obtain ⟨a,cap,rfl,hl,h⟩:=h
  refine ⟨a,cap,rfl,hl,fun hne=>?_⟩
  obtain ⟨g,rfl,h0,h1,h2,h3⟩:=h hne
  exact ⟨g,rfl,h0,Nat.lt_of_lt_of_le h1 hg.size,fun i c hc=>zu (h2 i c hc) hg h1 (hne' hne),zaE h3 hg h1 (hne' hne)⟩
theorem rdR_grown {G:Option Nat} {w w':World} {v:Value} {l:List α} (h:RdR f sz w v l) (hg:w.grownBy w' G) (hG:∀ g,G = some g→w.heap.size ≤ g):RdR f sz w' v l:=by
  obtain ⟨a,cap,rfl,hl,h⟩:=h
  refine ⟨a,cap,rfl,hl,fun hne=>?_⟩
  obtain ⟨b,off,rfl,h1,h2⟩:=h hne
  exact ⟨b,off,rfl,Nat.lt_of_lt_of_le h1 hg.size,fun i c hc=>zu (h2 i c hc) hg h1 (fun e=>by have:=hG b e.symm; omega)⟩
theorem ownR_lt {B:Nat} {w:World} {v:Value} {l:List α} (h:OwnR f sz B w v l) (hne:l ≠ []):∃ g,v.ownBlock = some g∧B ≤ g∧g < w.heap.size:=by
  obtain ⟨a,cap,rfl,hl,h⟩:=h
  obtain ⟨g,rfl,h0,h1,_⟩:=h hne
  exact ⟨g,rfl,h0,h1⟩
theorem zC {B:Nat} {w:World} (b:Nat) (hb:B ≤ b):∀ (vs:List Value) (o:Nat) (wr:World),Below B w wr→Below B w (wr.setCells b o vs)
  | [],_,_,h=>h
  | v :: r,o,wr,h=>by rw [World.setCells]; exact zC b hb r (o + 1) _ (h.setCell (show B ≤ (⟨b,o,none⟩:Addr).block from hb) v)
theorem zB (b:Nat):∀ (vs:List Value) (o:Nat) (wr:World),(wr.setCells b o vs).heap.size = wr.heap.size
  | [],_,_=>rfl
  | v :: r,o,wr=>by rw [World.setCells,zB b r (o + 1)]; simp [World.setCell]
theorem zaj {w:World} {g n t:Nat} {cur:Array Value} (hg:w.heap[g]? = some (.cells cur t (0,0))) (hn:n ≤ cur.size):w.there g 0 n:=fun j hj =>
  ⟨by rw [cell_of_row w g (0 + j) cur t (0,0) hg,Array.getElem?_eq_getElem (by omega)]; rfl,by simp [World.frozen?,hg]⟩
theorem fill_made {w w':World} {n e:Nat} {xs:List Value} (h:w'.ownsRow w.heap.size e sz (.slice (some ⟨w.heap.size,0,none⟩) n n) n xs) (hg:w.grownBy w' none):FillR f sz n w.heap.size w w' []:=by
  rcases h.2 with ⟨h0,_⟩ | ⟨g,cap,cur,hv,_,hh,_,_,hcur,_⟩
  · simp at h0
  · simp only [Value.slice.injEq,Option.some.injEq,Addr.mk.injEq,and_true,true_and] at hv
    obtain ⟨rfl,rfl⟩:=hv
    exact ⟨(Array.getElem?_eq_some_iff.1 hh).1,Nat.zero_le _,by simp,zaj hh (by omega),(Below.refl _ w).grown hg (Nat.le_refl _) (fun k hk=>by simp at hk)⟩
theorem fill_below {n B C:Nat} {w wr wr':World} {done:List α} (h:FillR f sz n B w wr done) (hb:Below C wr wr') (hC:wr.heap.size ≤ C):FillR f sz n B w wr' done:=by
  obtain ⟨h1,h2,h3,h4,h5⟩:=h
  exact ⟨Nat.lt_of_lt_of_le h1 hb.size,h2,fun i c hc=>zb (h3 i c hc) hb (by omega),zf h4 hb (by omega),h5.trans (hb.mono (by omega))⟩
theorem fill_step {n B:Nat} {w wr:World} {done:List α} (x:α) (h:FillR f sz n B w wr done) (hn:done.length < n) (hf:∀ c,(f c).length = sz):FillR f sz n B w (wr.setCells B (done.length * sz) (f x)) (done ++ [x]):=by
  obtain ⟨h1,h2,h3,h4,h5⟩:=h
  have hle:done.length * sz + sz ≤ n * sz:=by
    have:=Nat.mul_le_mul_right sz (show done.length + 1 ≤ n by omega)
    rw [Nat.add_mul] at this; omega
  refine ⟨by rw [zB]; exact h1,by simp; omega,fun i c hc=>?_,World.there_setCells h4 _ _ _,zC B (Nat.le_refl _) _ _ _ h5⟩
  by_cases hi:i < done.length
  · rw [List.getElem?_append_left hi] at hc
    refine World.rangeAt_setCells_apart (h3 i c hc) _ _ _ (.inr (.inl ?_))
    rw [hf c]
    have:=Nat.mul_le_mul_right sz (show i + 1 ≤ done.length by omega)
    rw [Nat.add_mul] at this; omega
  · have hlen:i < (done ++ [x]).length:=(List.getElem?_eq_some_iff.1 hc).1
    have hi':i = done.length:=by simp at hlen; omega
    subst hi'
    simp only [List.getElem?_append_right (Nat.le_refl _),Nat.sub_self,List.getElem?_cons_zero,Option.some.injEq] at hc
    subst hc
    rw [Nat.zero_add]
    exact World.rangeAt_setCells_same _ _ _ _ (fun j hj=>by
      have:=h4 (done.length * sz + j) (by rw [hf] at hj; omega)
      rw [Nat.zero_add] at this; exact this)
theorem fill_own {n B:Nat} {w wr:World} {l:List α} (h:FillR f sz n B w wr l) (hl:l.length = n) (hn:n ≤ 1073741824):OwnR f sz B wr (.slice (some ⟨B,0,none⟩) n n) l:=by
  obtain ⟨h1,h2,h3,h4,h5⟩:=h
  exact ⟨_,n,by rw [hl],by omega,fun _=>⟨B,rfl,Nat.le_refl _,h1,h3,by rw [hl]; exact h4⟩⟩
theorem fill_there {n B i:Nat} {w wr:World} {done:List α} (h:FillR f sz n B w wr done) (hi:i < n):wr.there B (i * sz) sz:=fun j hj=>by
  have hle:=Nat.mul_le_mul_right sz (show i + 1 ≤ n by omega)
  rw [Nat.add_mul] at hle
  have:=h.2.2.2.1 (i * sz + j) (by omega)
  rw [Nat.zero_add] at this; exact this
theorem flat_get (hf:∀ c,(f c).length = sz):∀ (l:List α) (i j:Nat) (c:α),l[i]? = some c→j < sz→(l.flatMap f)[i * sz + j]? = (f c)[j]?
  | [],_,_,_,h,_=>by simp at h
  | a :: l,0,j,c,h,hj=>by
    simp at h; subst h
    rw [List.flatMap_cons,List.getElem?_append_left (by rw [hf]; omega)]; simp
  | a :: l,i + 1,j,c,h,hj=>by
    simp at h
    rw [List.flatMap_cons,List.getElem?_append_right (by rw [hf,Nat.add_mul]; omega),hf,← flat_get hf l i j c h hj]
    congr 1
    rw [Nat.add_mul]; omega
theorem zP (hf:∀ c,(f c).length = sz):∀ (l:List α),(l.flatMap f).length = l.length * sz
  | []=>by simp
  | a :: l=>by rw [List.flatMap_cons,List.length_append,hf,zP hf l,List.length_cons,Nat.add_mul]; omega
theorem zan {B e:Nat} {w:World} {v:Value} {l:List α} (hf:∀ c,(f c).length = sz) (hl:l.length ≤ 1073741824) (h:w.ownsRow B e sz v l.length (l.flatMap f)):OwnR f sz B w v l:=by
  rcases h.2 with ⟨rfl,h0⟩ | ⟨g,cap,cur,rfl,hb,hg,hcap,_,hcur,htake⟩
  · exact ⟨none,0,by rw [h0],hl,fun hne=>absurd (List.length_eq_zero_iff.1 h0) hne⟩
  · have hle:=Nat.mul_le_mul_right sz hcap
    refine ⟨_,cap,rfl,hl,fun _=>⟨g,rfl,hb,(Array.getElem?_eq_some_iff.1 hg).1,fun i c hc j u hu=>?_,zaj hg (by omega)⟩⟩
    have hj:j < sz:=by rw [← hf c]; exact (List.getElem?_eq_some_iff.1 hu).1
    have h2:=flat_get hf l i j c hc hj
    have hlt:i * sz + j < l.length * sz:=by
      have:=Nat.mul_le_mul_right sz (show i + 1 ≤ l.length from (List.getElem?_eq_some_iff.1 hc).1)
      rw [Nat.add_mul] at this; omega
    rw [← htake,List.getElem?_take,if_pos hlt] at h2
    rw [cell_of_row w g _ cur e (0,0) hg,Nat.zero_add]
    simpa using h2.trans hu
end
end Go.Proofs.YtddhdkopgimieaaGreat
/-
  Commands as records of eight cells; no function walked but the copying of one.
-/
namespace Go.Proofs.YtddhdkopgimieaaGreat
open Go.RowKit
set_option linter.unusedVariables false

structure Cm where
  k:Int
  s:Int
  t:Int
  l:Int
  q:Int
  i:Int
  p:Nat
  g:ByteArray
def Cm.vs (c:Cm):List Value:=[.int .i64 c.k,.int .i64 c.s,.int .i64 c.t,.int .i64 c.l,.int .i64 c.q,.int .i64 c.i,.float .f64 c.p,.string c.g]
theorem Cm.len (c:Cm):c.vs.length = 8:=rfl
theorem cm_cells {w:World} {b o:Nat} {c:Cm} (h:w.rangeAt b o c.vs) :
    w.cell? ⟨b,o,none⟩ = some (.int .i64 c.k)∧w.cell? ⟨b,o + 1,none⟩ = some (.int .i64 c.s)∧w.cell? ⟨b,o + 2,none⟩ = some (.int .i64 c.t)∧w.cell? ⟨b,o + 3,none⟩ = some (.int .i64 c.l) ∧
    w.cell? ⟨b,o + 4,none⟩ = some (.int .i64 c.q)∧w.cell? ⟨b,o + 5,none⟩ = some (.int .i64 c.i)∧w.cell? ⟨b,o + 6,none⟩ = some (.float .f64 c.p)∧w.cell? ⟨b,o + 7,none⟩ = some (.string c.g) :=
  ⟨h 0 _ rfl,h 1 _ rfl,h 2 _ rfl,h 3 _ rfl,h 4 _ rfl,h 5 _ rfl,h 6 _ rfl,h 7 _ rfl⟩
theorem zK {w:World} {b o n:Nat} (h:w.there b o n) (j:Nat) (hj:j < n):∃ v,w.cell? ⟨b,o + j,none⟩ = some v∧w.frozen? ⟨b,o + j,none⟩ = false:=by
  obtain ⟨v,hv⟩:=Option.isSome_iff_exists.1 (h j hj).1
  exact ⟨v,hv,(h j hj).2⟩
theorem sfl (a:Addr) (x:Nat) (m:Mode) (w:World):(store a (.float .f64 x) m).run Tryz.prog w = stored Tryz.prog w a (.float .f64 x) m:=run_store _ w a _ m rfl
theorem toCmd_any (c:Cm) (w:World) :
    Calls Tryz.prog 10 #[.agg #[.int .i64 c.k,.int .i64 c.s,.int .i64 c.t,.int .i64 c.l,.int .i64 c.q,.int .i64 c.i,.float .f64 c.p,.string c.g]] w fun e w' =>
      e = .returned (.agg #[.int .i64 c.k,.int .i64 c.s,.int .i64 c.t,.int .i64 c.l,.int .i64 c.q,.int .i64 c.i,.float .f64 c.p,.string c.g])∧Below w.heap.size w w':=by
  obtain ⟨k,s,t,l,q,i,p,g⟩:=c
  have hsf:=sfl
  simp only
  go_enter Tryz.func10,Tryz.ntmps10
  go_wp2_with fail
  go_returns
  refine ⟨rfl,?_⟩
  go_grown
end Go.Proofs.YtddhdkopgimieaaGreat
/-
  Which floats are no numbers; a float made of a whole number is one.
-/
namespace Go.Proofs.YtddhdkopgimieaaGreat
open Go.RowKit

def nanB (x:Nat):Bool:=FloatKind.f64.format.order x x != some Ordering.eq
theorem read_rung (neg:Bool) (r:Nat) (h:r ≤ Ieee.double.infRung):¬ (Ieee.double.read (Ieee.double.word neg r)).isNaN = true:=by
  have h1:Ieee.double.infRung = 9218868437227405312:=by decide
  have h2:Ieee.double.signWeight = 9223372036854775808:=by decide
  have hr:Ieee.double.word neg r % Ieee.double.signWeight = r:=by
    unfold Ieee.Format.word
    cases neg <;> simp only [h2,if_true,if_false,Bool.false_eq_true] <;> omega
  unfold Ieee.Format.read
  simp only [hr]
  split
  · simp [Ieee.Datum.isNaN]
  · split
    · simp [Ieee.Datum.isNaN]
    · rw [if_pos (by omega)]; simp [Ieee.Datum.isNaN]
theorem datum_self (d:Ieee.Datum) (h:¬ d.isNaN = true):d.order d = some Ordering.eq:=by
  cases d with
  | nan s f=>simp [Ieee.Datum.isNaN] at h
  | infinity s=>cases s <;> rfl
  | number s m i=>simp [Ieee.Datum.order,Std.ReflCmp.compare_self]
theorem ofInt_order (n:Int):FloatKind.f64.format.order (floatOfInt .f64 n) (floatOfInt .f64 n) = some Ordering.eq:=by
  refine datum_self _ ?_
  show ¬ (Ieee.double.read (Ieee.double.nearest (n < 0) n.natAbs 0)).isNaN = true
  unfold Ieee.Format.nearest
  split
  · exact read_rung _ _ (Nat.zero_le _)
  · exact read_rung _ _ (Nat.min_le_right _ _)
end Go.Proofs.YtddhdkopgimieaaGreat
/-
  A float's bits, and the test for a number that is none: what they return.
-/
namespace Go.Proofs.YtddhdkopgimieaaGreat
open Go.RowKit

theorem fbits (x:Nat) (w:World):(callFunc 150 #[.float .f64 x]).run Tryz.prog w = .ok (.value (.int .u64 x)) w:=by
  rw [run_callFunc_extern (e:=Extern.MathFloatBits.float64bits) Tryz.func150 (by kernel_rfl) (by kernel_rfl) (by kernel_rfl) (by kernel_rfl)]
  rfl
theorem isNaN_any (x:Nat) (w:World) :
    Calls Tryz.prog 158 #[.float .f64 x] w fun e w'=>e = .returned (.bool (nanB x))∧w' = w:=by
  go_enter Tryz.func158,Tryz.ntmps158
  go_wp2
  go_ret
  exact ⟨rfl,rfl⟩
end Go.Proofs.YtddhdkopgimieaaGreat
/-
  A float's bits, as the program takes them: proved by walking the function.
-/
namespace Go.Proofs.YtddhdkopgimieaaGreat
open Go.RowKit

def fbit (x:Nat):Nat:=if nanB x = true then 9221120237041090560 else x
theorem floatBits_any (x:Nat) (w:World) :
    Calls Tryz.prog 151 #[.float .f64 x] w fun e w'=>e = .returned (.int .u64 (fbit x))∧w' = w:=by
  have hb:=fbits
  cases h:nanB x
  case true =>
    have HX:Hid (fbit x = 9221120237041090560):=if_pos h
    go_enter Tryz.func151,Tryz.ntmps151
    go_wp2_with (go_at_call 158; refine (isNaN_any _ _).mono ?_; rintro e w' ⟨rfl,rfl⟩)
    go_ret
    exact ⟨by rw [za HX]; rfl,rfl⟩
  case false =>
    have HX:Hid (fbit x = x):=if_neg (by rw [h]; decide)
    go_enter Tryz.func151,Tryz.ntmps151
    go_wp2_with (go_at_call 158; refine (isNaN_any _ _).mono ?_; rintro e w' ⟨rfl,rfl⟩)
    go_ret
    exact ⟨by rw [za HX]; rfl,rfl⟩
end Go.Proofs.YtddhdkopgimieaaGreat
/-
  A price times four, in the bits of floats: it is a number, and its whole part fits an int; plain facts, no program.
-/
namespace Go.Proofs.YtddhdkopgimieaaGreat
open Go Ieee

theorem fb:double.fractionBits = 52:=rfl
theorem lp:double.leastPlace = -1074:=by decide
theorem bin:double.binade = 4503599627370496:=by decide
theorem inf:double.infRung = 9218868437227405312:=by decide
theorem sw:double.signWeight = 9223372036854775808:=by decide
theorem read_mag {x:Nat} {s:Bool} {m:Nat} {i:Int} (h:double.read x = .number s m i):m < 9007199254740992:=by
  unfold Format.read at h
  simp only [bin,inf,sw] at h
  split at h
  · simp only [Datum.number.injEq] at h; omega
  · split at h
    · simp only [Datum.number.injEq] at h; omega
    · split at h <;> cases h
theorem read_zero:double.read 0 = .number false 0 (-1074):=by decide
theorem read_top:double.read 4687829947429945344 = .number false 8589934592000000 (-35):=by decide
theorem read_four:double.read 4616189618054758400 = .number false 4503599627370496 (-50):=by decide
theorem signed_neg (m a:Nat):signed true m a ≤ 0:=by
  show -((m <<< a:Nat):Int) ≤ 0
  exact Int.neg_nonpos_of_nonneg (Int.natCast_nonneg _)
theorem above_zero {x:Nat} (h:double.order x 0 = some .gt):double.read x = .infinity false ∨ ∃ m i,double.read x = .number false m i∧m ≠ 0:=by
  unfold Format.order at h
  rw [read_zero] at h
  cases hx:double.read x with
  | nan s f=>rw [hx] at h; simp [Datum.order] at h
  | infinity s=>cases s with
    | false=>exact .inl rfl
    | true=>rw [hx] at h; simp [Datum.order] at h
  | number s m i =>
    rw [hx] at h
    simp only [Datum.order,Option.some.injEq] at h
    have hz:∀ b,signed false 0 b = 0:=fun b=>by simp [signed]
    rw [hz] at h
    have hgt:=Std.compare_eq_gt.1 h
    cases s with
    | false =>
      refine .inr ⟨m,i,rfl,fun e=>?_⟩
      subst e
      rw [hz] at hgt
      exact absurd hgt (by decide)
    | true =>
      exact absurd hgt (Int.not_lt.2 (signed_neg m _))
theorem log_le {m k:Nat} (hm:m ≠ 0) (h:m < 2 ^ k):m.log2 < k:=(Nat.log2_lt hm).2 h
theorem within {m:Nat} {i:Int} {x:Nat} (hx:double.read x = .number false m i) (hm:m ≠ 0) (h:double.order x 4687829947429945344 = some .lt ∨ double.order x 4687829947429945344 = some .eq):i + m.log2 ≤ 17:=by
  have hmag:=read_mag hx
  unfold Format.order at h
  rw [read_top,hx] at h
  simp only [Datum.order,Option.some.injEq] at h
  have hle:signed false m (i - min i (-35)).toNat ≤ signed false 8589934592000000 (-35 - min i (-35)).toNat:=by
    rcases h with h | h
    · exact Int.le_of_lt (Std.compare_eq_lt.1 h)
    · exact Int.le_of_eq (Std.LawfulEqCmp.eq_of_compare h)
  by_cases hi:i < -35
  · have:=log_le hm (show m < 2 ^ 53 by omega)
    omega
  · have e1:min i (-35) = -35:=by omega
    rw [e1] at hle
    have e2:((-35:Int) - -35).toNat = 0:=by decide
    rw [e2] at hle
    have hle':(m <<< (i - -35).toNat:Nat) ≤ (8589934592000000 <<< 0:Nat):=by
      have:((m <<< (i - -35).toNat:Nat):Int) ≤ ((8589934592000000 <<< 0:Nat):Int):=hle
      omega
    rw [Nat.shiftLeft_eq,Nat.shiftLeft_zero] at hle'
    have hlog:m.log2 + (i - -35).toNat < 53:=by
      have h1:2 ^ m.log2 ≤ m:=Nat.log2_self_le hm
      have h2:2 ^ (m.log2 + (i - -35).toNat) ≤ m * 2 ^ (i - -35).toNat:=by
        rw [Nat.pow_add]; exact Nat.mul_le_mul_right _ h1
      have h3:2 ^ (m.log2 + (i - -35).toNat) < 2 ^ 53:=by omega
      exact (Nat.pow_lt_pow_iff_right (by decide)).1 h3
    omega
theorem log_up {m:Nat} (hm:m ≠ 0):(m * 4503599627370496).log2 = m.log2 + 52:=by
  have h:=(Nat.log2_eq_iff hm).1 rfl
  refine (Nat.log2_eq_iff (by omega)).2 ?_
  rw [Nat.pow_add,show m.log2 + 52 + 1 = (m.log2 + 1) + 52 by omega,Nat.pow_add 2 (m.log2 + 1) 52,show (2:Nat) ^ 52 = 4503599627370496 from rfl]
  exact ⟨Nat.mul_le_mul_right _ h.1,Nat.mul_lt_mul_of_pos_right h.2 (by decide)⟩
theorem cut_le (n p drop:Nat) (hn:n < 2 ^ (p + 53)) (hp:p ≤ drop) (hl:p ≤ n.log2 + 2):Toward.even.cut false n drop ≤ 9007199254740993:=by
  unfold Toward.cut
  simp only
  have hg:2 ^ p ≤ 1 <<< min drop (n.log2 + 2):=by
    rw [Nat.one_shiftLeft]
    exact Nat.pow_le_pow_right (by decide) (by omega)
  have hq:n / (1 <<< min drop (n.log2 + 2)) ≤ 9007199254740992:=by
    refine Nat.le_trans (Nat.div_le_div_left hg (Nat.two_pow_pos p)) ?_
    have:n / 2 ^ p < 2 ^ 53:=by
      rw [Nat.div_lt_iff_lt_mul (Nat.two_pow_pos p),← Nat.pow_add,Nat.add_comm]
      exact hn
    omega
  have hb:∀ b:Bool,b.toNat ≤ 1:=by decide
  have:=hb (decide (1 <<< min drop (n.log2 + 2) < 2 * (n % 1 <<< min drop (n.log2 + 2))) || (1 <<< min drop (n.log2 + 2) == 2 * (n % 1 <<< min drop (n.log2 + 2)) && n / 1 <<< min drop (n.log2 + 2) % 2 == 1))
  omega
theorem near_le {m:Nat} {i:Int} (hm:m ≠ 0) (hi:i + m.log2 ≤ 17):double.nearest false (m * 4503599627370496) (i + -50) < 1075 * 4503599627370496:=by
  have hmag:¬ m * 4503599627370496 = 0:=by omega
  have hlog:=log_up hm
  have hlt:m * 4503599627370496 < 2 ^ (m.log2 + 53):=by
    have h:=((Nat.log2_eq_iff hm).1 rfl).2
    rw [show m.log2 + 53 = (m.log2 + 1) + 52 by omega,Nat.pow_add 2 (m.log2 + 1) 52,show (2:Nat) ^ 52 = 4503599627370496 from rfl]
    exact Nat.mul_lt_mul_of_pos_right h (by decide)
  unfold Format.nearest
  rw [if_neg hmag]
  simp only [hlog,fb,lp,bin,inf,Format.word,Bool.false_eq_true,if_false]
  have hlast:i + -50 + ((m.log2 + 52:Nat):Int) - (52:Nat) ≤ max (i + -50 + ((m.log2 + 52:Nat):Int) - (52:Nat)) (-1074):=Int.le_max_left _ _
  have hup:max (i + -50 + ((m.log2 + 52:Nat):Int) - (52:Nat)) (-1074) ≤ -33:=Int.max_le.2 ⟨by omega,by omega⟩
  generalize max (i + -50 + ((m.log2 + 52:Nat):Int) - (52:Nat)) (-1074) = last at *
  have e0:(i + -50 - last).toNat = 0:=by omega
  rw [e0,Nat.shiftLeft_zero]
  have hc:=cut_le (m * 4503599627370496) m.log2 (last - (i + -50)).toNat hlt (by omega) (by omega)
  generalize Toward.even.cut false (m * 4503599627370496) (last - (i + -50)).toNat = kept at *
  have e1:(last - -1074).toNat ≤ 1041:=by omega
  have e2:(last - -1074).toNat * 4503599627370496 ≤ 1041 * 4503599627370496:=Nat.mul_le_mul_right _ e1
  omega
theorem whole {r:Nat} (h:r < 1075 * 4503599627370496):∃ n:Nat,(double.read r).toInt .zero = some (n:Int)∧n < 9007199254740992:=by
  have hneg:(r / 9223372036854775808 % 2 == 1) = false:=by simp; omega
  have hr:r % 9223372036854775808 = r:=by omega
  have cutz:∀ (n d:Nat),Toward.zero.cut false n d ≤ n:=by
    intro n d
    unfold Toward.cut
    simp only [Bool.toNat_false,Nat.add_zero]
    exact Nat.div_le_self _ _
  unfold Format.read
  simp only [bin,inf,sw,hneg,hr,lp]
  split
  · refine ⟨Toward.zero.cut false (r <<< (-1074:Int).toNat) (1074:Int).toNat,?_,?_⟩
    · simp [Datum.toInt,Datum.integral,signed]
    · have:=cutz (r <<< (-1074:Int).toNat) (1074:Int).toNat
      rw [show (-1074:Int).toNat = 0 from rfl,Nat.shiftLeft_zero] at this ⊢
      omega
  · rw [if_pos (by omega)]
    have hi:(-1074 + ((r / 4503599627370496 - 1:Nat):Int)).toNat = 0:=by omega
    refine ⟨Toward.zero.cut false ((4503599627370496 + r % 4503599627370496) <<< (-1074 + ((r / 4503599627370496 - 1:Nat):Int)).toNat) (-(-1074 + ((r / 4503599627370496 - 1:Nat):Int))).toNat,?_,?_⟩
    · simp [Datum.toInt,Datum.integral,signed]
    · have:=cutz ((4503599627370496 + r % 4503599627370496) <<< (-1074 + ((r / 4503599627370496 - 1:Nat):Int)).toNat) (-(-1074 + ((r / 4503599627370496 - 1:Nat):Int))).toNat
      rw [hi,Nat.shiftLeft_zero] at this ⊢
      omega
theorem price_four {x:Nat} (h0:double.order x 0 = some .gt) (h1:double.order x 4687829947429945344 = some .lt ∨ double.order x 4687829947429945344 = some .eq) :
    ∃ (r n:Nat),double.mul x 4616189618054758400 = some r∧(double.read r).toInt .zero = some (n:Int)∧n < 9007199254740992:=by
  rcases above_zero h0 with hx | ⟨m,i,hx,hm⟩
  · exfalso
    unfold Format.order at h1
    rw [hx,read_top] at h1
    simp [Datum.order] at h1
  · have hw:=within hx hm h1
    have hmul:double.mul x 4616189618054758400 = some (double.nearest false (m * 4503599627370496) (i + -50)):=by
      unfold Format.mul
      rw [hx,read_four]
      rfl
    obtain ⟨n,h2,h3⟩:=whole (near_le hm hw)
    exact ⟨_,n,hmul,h2,h3⟩
end Go.Proofs.YtddhdkopgimieaaGreat
