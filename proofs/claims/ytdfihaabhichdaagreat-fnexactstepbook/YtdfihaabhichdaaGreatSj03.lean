/-
  Who trades ahead of whom in a list of orders, how many levels it has, and what a tree of them tells, as pure data; no function walked.
-/
import Derived.Test.YtdfihaabhichdaaGreatSj01
import Derived.Test.YtdfihaabhichdaaGreatSj02
import Derived.OpenShut
import Derived.Deep.QuietTactic
import Derived.BigQuiet
import Derived.WalkSmall
import Derived.WalkSpells
import Derived.Deep.MidRow
import Derived.Handy
namespace Go.Proofs.YtdfihaabhichdaaGreat
open Go.RowKit

def ahd (s:Bool) (a b:Od):Prop:=bt s a.ticks b.ticks ∨ (a.ticks = b.ticks∧a.id < b.id)
theorem ahd_irr (s:Bool) (a:Od):¬ ahd s a a:=by
  rintro (h | h)
  · exact bt_irr _ _ h
  · omega
theorem ahd_trans {s:Bool} {a b c:Od} (h1:ahd s a b) (h2:ahd s b c):ahd s a c:=by
  rcases h1 with h1 | ⟨e1,h1⟩ <;> rcases h2 with h2 | ⟨e2,h2⟩
  · exact .inl (bt_trans h1 h2)
  · exact .inl (e2 ▸ h1)
  · exact .inl (e1 ▸ h2)
  · exact .inr ⟨e1.trans e2,by omega⟩
theorem ahd_asymm {s:Bool} {a b:Od} (h1:ahd s a b):¬ ahd s b a:=fun h2=>ahd_irr s a (ahd_trans h1 h2)
theorem ahd_total {s:Bool} {a b:Od} (h:a.id ≠ b.id):ahd s a b ∨ ahd s b a:=by
  rcases bt_total s a.ticks b.ticks with h1 | h1 | h1
  · exact .inl (.inl h1)
  · rcases Int.lt_or_gt_of_ne h with h2 | h2
    · exact .inl (.inr ⟨h1,h2⟩)
    · exact .inr (.inr ⟨h1.symm,h2⟩)
  · exact .inr (.inl h1)
def zbi (l:List Od):Prop:=l.Pairwise (fun a b=>a.id < b.id)
def zr (l:List Od) (sd:Int):List Od:=l.filter (fun o=>decide (o.side = sd))
theorem ofSide_snoc (l:List Od) (k:Nat) (c:Od) (h:l[k]? = some c):zr (l.take (k + 1)) c.side = zr (l.take k) c.side ++ [c]:=by
  obtain ⟨hk,rfl⟩:=List.getElem?_eq_some_iff.1 h
  unfold zr
  rw [List.take_succ_eq_append_getElem hk,List.filter_append]; simp
theorem ofSide_skip (l:List Od) (k:Nat) (c:Od) {sd:Int} (h:l[k]? = some c) (hs:¬ c.side = sd):zr (l.take (k + 1)) sd = zr (l.take k) sd:=by
  obtain ⟨hk,rfl⟩:=List.getElem?_eq_some_iff.1 h
  unfold zr
  rw [List.take_succ_eq_append_getElem hk,List.filter_append]; simp [hs]
theorem perm_split (p:Od→Bool):∀ l:List Od,List.Perm (l.filter p ++ l.filter (fun o=>!p o)) l
  | []=>by simp
  | a :: l=>by
    have ih:=perm_split p l
    by_cases h:p a = true
    · simp only [List.filter_cons,h,if_true,Bool.not_true,Bool.false_eq_true,if_false,List.cons_append]
      exact ih.cons a
    · simp only [Bool.not_eq_true] at h
      simp only [List.filter_cons,h,Bool.false_eq_true,if_false,Bool.not_false,if_true]
      exact List.perm_middle.trans (ih.cons a)
theorem flat_perm:∀ (T:List Int) (seq:List Od),T.Nodup→(∀ o ∈ seq,o.ticks ∈ T)→List.Perm (T.flatMap (atK seq)) seq
  | [],seq,_,h=>by
    cases seq with
    | nil=>simp
    | cons a r=>exact absurd (h a (by simp)) (by simp)
  | k :: T,seq,hd,h=>by
    have hd':=List.nodup_cons.1 hd
    have e:T.flatMap (atK seq) = T.flatMap (atK (seq.filter (fun o=>!decide (o.ticks = k)))):=by
      rw [List.flatMap_def,List.flatMap_def]
      congr 1
      refine List.map_congr_left fun k' hk'=>?_
      unfold atK
      rw [List.filter_filter]
      refine List.filter_congr fun o _=>?_
      by_cases h1:o.ticks = k'
      · have:¬ o.ticks = k:=fun e=>hd'.1 (by rw [← e,h1]; exact hk')
        simp [h1]; rw [← h1]; exact this
      · simp [h1]
    rw [List.flatMap_cons,e]
    refine (List.Perm.append_left _ (flat_perm T _ hd'.2 (fun o ho=>?_))).trans (perm_split _ seq)
    simp at ho
    rcases List.mem_cons.1 (h o ho.1) with h1 | h1
    · exact absurd h1 ho.2
    · exact h1
theorem flat_sorted {s:Bool}:∀ {T:List Int} {seq:List Od},T.Pairwise (bt s)→zbi seq→(T.flatMap (atK seq)).Pairwise (ahd s)
  | [],_,_,_=>by simp
  | k :: T,seq,hT,hr=>by
    obtain ⟨p1,p2⟩:=List.pairwise_cons.1 hT
    rw [List.flatMap_cons,List.pairwise_append]
    refine ⟨?_,flat_sorted p2 hr,fun a ha b hb=>?_⟩
    · have h1:(atK seq k).Pairwise (fun a b=>a.id < b.id):=List.Pairwise.sublist List.filter_sublist hr
      refine h1.imp_of_mem fun {a b} ha hb hab=>.inr ⟨?_,hab⟩
      simp [atK] at ha hb
      rw [ha.2,hb.2]
    · simp only [List.mem_flatMap] at hb
      obtain ⟨k',h1,h2⟩:=hb
      simp [atK] at ha h2
      exact .inl (by rw [ha.2,h2.2]; exact p1 k' h1)
theorem bt_nodup {s:Bool} {T:List Int} (h:T.Pairwise (bt s)):T.Nodup:=by
  unfold List.Nodup
  refine h.imp fun {a b} hab=>?_
  rintro rfl
  exact bt_irr s a hab
structure IsT (s:Bool) (seq:List Od) (T:List Int):Prop where
  sorted:T.Pairwise (bt s)
  mem:∀ k,k ∈ T ↔ ∃ o ∈ seq,o.ticks = k
theorem isT_of {s:Bool} {S:TS} {t:Tr} {sd:Int} {seq:List Od} (hi:TI s S t) (hq:QI S t sd seq):IsT s seq (t.hs.map fun h=>(S.nd h).ticks):=by
  refine ⟨?_,fun k=>⟨fun hk=>?_,?_⟩⟩
  · rw [List.pairwise_map]; exact hi.sorted
  · obtain ⟨h,h1,rfl⟩:=List.mem_map.1 hk
    have:=(hq.q h h1).ne
    obtain ⟨a,ha⟩:=List.exists_mem_of_ne_nil _ this
    obtain ⟨_,_,o,h3,h4⟩:=zbk _ _ _ _ ha
    exact ⟨o,List.mem_of_getElem? h3,h4⟩
  · rintro ⟨o,ho,rfl⟩
    obtain ⟨h,h1,h2⟩:=hq.cover o ho
    exact List.mem_map.2 ⟨h,h1,h2⟩
def nlevR:List Od→Nat
  | []=>0
  | x :: r=>nlevR r + if ∃ y ∈ r,y.side = x.side∧y.ticks = x.ticks then 0 else 1
theorem nlevR_eq:∀ (l:List Od) (A B:List Int),A.Nodup→B.Nodup→(∀ o ∈ l,o.side = 1 ∨ o.side = 2)→(∀ k,k ∈ A ↔ ∃ o ∈ l,o.side = 1∧o.ticks = k)→(∀ k,k ∈ B ↔ ∃ o ∈ l,o.side = 2∧o.ticks = k)→nlevR l = A.length + B.length
  | [],A,B,_,_,_,hA,hB=>by
    have a0:A = []:=List.eq_nil_iff_forall_not_mem.2 fun k hk=>by obtain ⟨o,h,_⟩:=(hA k).1 hk; simp at h
    have b0:B = []:=List.eq_nil_iff_forall_not_mem.2 fun k hk=>by obtain ⟨o,h,_⟩:=(hB k).1 hk; simp at h
    rw [a0,b0]; rfl
  | x :: l,A,B,dA,dB,hs,hA,hB=>by
    rw [nlevR]
    have hs':∀ o ∈ l,o.side = 1 ∨ o.side = 2:=fun o ho=>hs o (by simp [ho])
    by_cases he:∃ y ∈ l,y.side = x.side∧y.ticks = x.ticks
    · rw [if_pos he]
      obtain ⟨y,hy,e1,e2⟩:=he
      refine nlevR_eq l A B dA dB hs' (fun k=>(hA k).trans ⟨?_,?_⟩) (fun k=>(hB k).trans ⟨?_,?_⟩)
      · rintro ⟨o,ho,h1,h2⟩
        rcases List.mem_cons.1 ho with rfl | ho
        · exact ⟨y,hy,e1.trans h1,e2.trans h2⟩
        · exact ⟨o,ho,h1,h2⟩
      · rintro ⟨o,ho,h⟩; exact ⟨o,by simp [ho],h⟩
      · rintro ⟨o,ho,h1,h2⟩
        rcases List.mem_cons.1 ho with rfl | ho
        · exact ⟨y,hy,e1.trans h1,e2.trans h2⟩
        · exact ⟨o,ho,h1,h2⟩
      · rintro ⟨o,ho,h⟩; exact ⟨o,by simp [ho],h⟩
    · rw [if_neg he]
      have hno:∀ y ∈ l,y.side = x.side→y.ticks ≠ x.ticks:=fun y hy h1 h2=>he ⟨y,hy,h1,h2⟩
      rcases hs x (by simp) with hx | hx
      · have hxA:x.ticks ∈ A:=(hA _).2 ⟨x,by simp,hx,rfl⟩
        have:=nlevR_eq l (A.erase x.ticks) B (dA.erase _) dB hs' (fun k=>?_) (fun k=>(hB k).trans ⟨?_,?_⟩)
        · rw [List.length_erase_of_mem hxA] at this
          have hp:0 < A.length:=List.length_pos_of_mem hxA
          omega
        · rw [List.Nodup.mem_erase_iff dA,hA]
          constructor
          · rintro ⟨hk,o,ho,h1,h2⟩
            rcases List.mem_cons.1 ho with rfl | ho
            · exact absurd h2.symm hk
            · exact ⟨o,ho,h1,h2⟩
          · rintro ⟨o,ho,h1,h2⟩
            exact ⟨fun e=>hno o ho (h1.trans hx.symm) (h2.trans e),o,by simp [ho],h1,h2⟩
        · rintro ⟨o,ho,h1,h2⟩
          rcases List.mem_cons.1 ho with rfl | ho
          · omega
          · exact ⟨o,ho,h1,h2⟩
        · rintro ⟨o,ho,h⟩; exact ⟨o,by simp [ho],h⟩
      · have hxB:x.ticks ∈ B:=(hB _).2 ⟨x,by simp,hx,rfl⟩
        have:=nlevR_eq l A (B.erase x.ticks) dA (dB.erase _) hs' (fun k=>(hA k).trans ⟨?_,?_⟩) (fun k=>?_)
        · rw [List.length_erase_of_mem hxB] at this
          have hp:0 < B.length:=List.length_pos_of_mem hxB
          omega
        · rintro ⟨o,ho,h1,h2⟩
          rcases List.mem_cons.1 ho with rfl | ho
          · omega
          · exact ⟨o,ho,h1,h2⟩
        · rintro ⟨o,ho,h⟩; exact ⟨o,by simp [ho],h⟩
        · rw [List.Nodup.mem_erase_iff dB,hB]
          constructor
          · rintro ⟨hk,o,ho,h1,h2⟩
            rcases List.mem_cons.1 ho with rfl | ho
            · exact absurd h2.symm hk
            · exact ⟨o,ho,h1,h2⟩
          · rintro ⟨o,ho,h1,h2⟩
            exact ⟨fun e=>hno o ho (h1.trans hx.symm) (h2.trans e),o,by simp [ho],h1,h2⟩
def nlev (l:List Od):Nat:=nlevR l.reverse
theorem nlev_snoc (l:List Od) (x:Od):nlev (l ++ [x]) = nlev l + if ∃ y ∈ l,y.side = x.side∧y.ticks = x.ticks then 0 else 1:=by
  unfold nlev; rw [List.reverse_append]; simp [nlevR]
theorem nlev_eq {l:List Od} {A B:List Int} (hs:∀ o ∈ l,o.side = 1 ∨ o.side = 2) (hA:IsT true (zr l 1) A) (hB:IsT false (zr l 2) B):nlev l = A.length + B.length:=by
  refine nlevR_eq _ A B (bt_nodup hA.sorted) (bt_nodup hB.sorted) (fun o ho=>hs o (by simpa using ho)) (fun k=>(hA.mem k).trans ?_) (fun k=>(hB.mem k).trans ?_)
  · simp [zr,and_assoc]
  · simp [zr,and_assoc]
def zcD (s:Bool) (l:List Od) (sd:Int) (i:Nat) (o:Od):Prop:=l[i]? = some o∧o.side = sd∧∀ j o',l[j]? = some o'→o'.side = sd→j ≠ i→ahd s o o'
theorem front_unique {s:Bool} {l:List Od} {sd:Int} {i j:Nat} {o o':Od} (h:zcD s l sd i o) (h':zcD s l sd j o'):i = j∧o = o':=by
  obtain ⟨a1,a2,a3⟩:=h
  obtain ⟨b1,b2,b3⟩:=h'
  have hij:i = j:=by
    rcases Nat.decEq i j with hne | rfl
    · exact absurd (a3 j o' b1 b2 (fun e=>hne e.symm)) (ahd_asymm (b3 i o a1 a2 hne))
    · rfl
  subst hij
  rw [a1] at b1
  exact ⟨rfl,Option.some.inj b1⟩
theorem queue_front {s:Bool} {l:List Od} {sd:Int} {T:List Int} (hr:zbi l) (hT:IsT s (zr l sd) T) {o:Od} (ho:(T.flatMap (atK (zr l sd))).head? = some o) :
    ∃ i,zcD s l sd i o:=by
  have hrs:zbi (zr l sd):=List.Pairwise.sublist List.filter_sublist hr
  have hp:=flat_perm T (zr l sd) (bt_nodup hT.sorted) (fun o ho=>(hT.mem _).2 ⟨o,ho,rfl⟩)
  have hso:=flat_sorted hT.sorted hrs
  generalize T.flatMap (atK (zr l sd)) = Q at *
  cases Q with
  | nil=>simp at ho
  | cons a r =>
    simp at ho; subst ho
    have hm:a ∈ zr l sd:=hp.mem_iff.1 (by simp)
    simp [zr] at hm
    obtain ⟨i,hi⟩:=List.mem_iff_getElem?.1 hm.1
    refine ⟨i,hi,hm.2,fun j o' hj hs hne=>?_⟩
    have hm':o' ∈ a :: r:=hp.mem_iff.2 (by simp [zr]; exact ⟨List.mem_of_getElem? hj,hs⟩)
    rcases List.mem_cons.1 hm' with rfl | hm'
    · exfalso
      obtain ⟨h1,e1⟩:=List.getElem?_eq_some_iff.1 hi
      obtain ⟨h2,e2⟩:=List.getElem?_eq_some_iff.1 hj
      have hp2:=List.pairwise_iff_getElem.1 hr
      rcases Nat.lt_or_gt_of_ne hne with h | h
      · have:=hp2 j i h2 h1 h; rw [e1,e2] at this; omega
      · have:=hp2 i j h1 h2 h; rw [e1,e2] at this; omega
    · exact (List.pairwise_cons.1 hso).1 o' hm'
theorem queue_none {s:Bool} {l:List Od} {sd:Int} {T:List Int} (hT:IsT s (zr l sd) T) (ho:(T.flatMap (atK (zr l sd))).head? = none):∀ o ∈ l,o.side ≠ sd:=by
  have hp:=flat_perm T (zr l sd) (bt_nodup hT.sorted) (fun o ho=>(hT.mem _).2 ⟨o,ho,rfl⟩)
  rw [List.head?_eq_none_iff] at ho
  rw [ho] at hp
  have:=List.nil_perm.1 hp
  intro o h1 h2
  have hm:o ∈ zr l sd:=by simp [zr]; exact ⟨h1,h2⟩
  rw [this] at hm; simp at hm
end Go.Proofs.YtdfihaabhichdaaGreat
namespace Go.Proofs.YtdfihaabhichdaaGreat
open Go.RowKit

def Rd (w:World) (v:Value) (l:List Int):Prop :=
  ∃ (a:Option Addr) (cap:Nat),v = .slice a l.length cap∧l.length ≤ 1073741824 ∧
    (l ≠ []→∃ b off,a = some ⟨b,off,none⟩∧∀ i,i < l.length→w.cell? ⟨b,off + i,none⟩ = some (.int .u8 (l.getD i 0)))
theorem gr_trans {a b c:World} {row:Option Nat} (h:a.grownBy b row) (k:b.grownBy c row):a.grownBy c row :=
  ⟨k.os.trans h.os,k.tape.trans h.tape,k.output.trans h.output,Nat.le_trans h.size k.size,
    fun i hi hne=>(k.block i (Nat.lt_of_lt_of_le hi h.size) hne).trans (h.block i hi hne)⟩
theorem gr_set (w:World) (a:Addr) (u:Value):w.grownBy (w.setCell a u) (some a.block) :=
  ⟨rfl,rfl,rfl,by simp [World.setCell],fun k _ hne=>Below.heap_setCell _ _ _ _ (fun e=>hne (by rw [e]))⟩
theorem zS {g a b:Nat} (h:a ≠ b):(⟨g,a,none⟩:Addr) ≠ ⟨g,b,none⟩:=by
  intro e; injection e; exact h (by assumption)
def Own (B:Nat) (w:World) (v:Value) (l:List Int):Prop :=
  ∃ g cap,v = .slice (some ⟨g,0,none⟩) l.length cap∧B ≤ g∧g < w.heap.size∧l.length ≤ 1073741824 ∧
    (∀ i,i < l.length→w.cell? ⟨g,0 + i,none⟩ = some (.int .u8 (l.getD i 0)))∧∀ i,i < l.length→w.frozen? ⟨g,0 + i,none⟩ = false
def OwnT (B:Nat) (w:World) (v:Value) (l:List Int):Prop :=
  ∃ g cap cur t,v = .slice (some ⟨g,0,none⟩) l.length cap∧B ≤ g∧w.heap[g]? = some (.cells cur t (0,0))∧l.length ≤ cap∧cap ≤ cur.size∧cap ≤ maxLen∧l.length ≤ 1073741824 ∧
    cur.toList.take l.length = l.map (Value.int .u8)
theorem cell_head {w:World} {g t:Nat} {cur:Array Value} {l:List Int} (hg:w.heap[g]? = some (.cells cur t (0,0))) (ht:cur.toList.take l.length = l.map (Value.int .u8)) {i:Nat} (hi:i < l.length) :
    w.cell? ⟨g,i,none⟩ = some (.int .u8 (l.getD i 0)):=by
  rw [cell_of_row w g i cur t (0,0) hg]
  have h1:(cur.toList.take l.length)[i]? = (l.map (Value.int .u8))[i]?:=by rw [ht]
  rw [List.getElem?_take,if_pos hi,List.getElem?_map,List.getElem?_eq_getElem hi] at h1
  simpa [hi] using h1
theorem OwnT.own {B:Nat} {w:World} {v:Value} {l:List Int} (h:OwnT B w v l):Own B w v l:=by
  obtain ⟨g,cap,cur,t,rfl,hb,hg,_,_,_,hl,ht⟩:=h
  exact ⟨g,cap,rfl,hb,(Array.getElem?_eq_some_iff.1 hg).1,hl,fun i hi=>by rw [Nat.zero_add]; exact cell_head hg ht hi,fun i _=>by simp [World.frozen?,hg]⟩
def Arr (M B:Nat) (w wr:World) (done:List Int):Prop :=
  ∃ cur t,wr.heap[B]? = some (.cells cur t (0,0))∧cur.size = M∧done.length ≤ M∧cur.toList.take done.length = done.map (Value.int .u8)∧Below B w wr
theorem Arr.below {M B:Nat} {w wr:World} {done:List Int} (h:Arr M B w wr done):Below B w wr:=by
  obtain ⟨_,_,_,_,_,_,h⟩:=h; exact h
theorem Arr.lt {M B:Nat} {w wr:World} {done:List Int} (h:Arr M B w wr done):B < wr.heap.size:=by
  obtain ⟨_,_,h,_⟩:=h; exact (Array.getElem?_eq_some_iff.1 h).1
theorem Arr.some {M B:Nat} {w wr:World} {done:List Int} (h:Arr M B w wr done) {j:Nat} (hj:j < M):∃ v,wr.cell? ⟨B,j,none⟩ = .some v:=by
  obtain ⟨cur,t,h1,h2,_⟩:=h
  exact ⟨_,(cell_of_row wr B j cur t (0,0) h1).trans (Array.getElem?_eq_getElem (by omega))⟩
theorem zau {B:Nat} {a w:World} (h:Below B a w) (n:Nat):Below B a (w.drewN n):=h.trans ⟨rfl,rfl,rfl,Nat.le_refl _,fun _ _=>rfl⟩
theorem take_get (l:List Int) (k:Nat) (h:k < l.length):l.take (k + 1) = l.take k ++ [l.getD k 0]:=by
  rw [List.take_succ_eq_append_getElem h]; simp [h]
end Go.Proofs.YtdfihaabhichdaaGreat
namespace Go.Proofs.YtdfihaabhichdaaGreat
open Go.RowKit

theorem zb {C:Nat} {w w':World} {b o:Nat} {cs:List Value} (h:w.rangeAt b o cs) (hb:Below C w w') (hC:b < C):w'.rangeAt b o cs :=
  fun j v hv=>(hb.cell (p:=⟨b,o + j,none⟩) hC).trans (h j v hv)
theorem zf {C:Nat} {w w':World} {b o n:Nat} (h:w.there b o n) (hb:Below C w w') (hC:b < C):w'.there b o n :=
  fun j hj=>⟨by rw [hb.cell (p:=⟨b,o + j,none⟩) hC]; exact (h j hj).1,by rw [hb.frozen (p:=⟨b,o + j,none⟩) hC]; exact (h j hj).2⟩
theorem zu {G:Option Nat} {w w':World} {b o:Nat} {cs:List Value} (h:w.rangeAt b o cs) (hg:w.grownBy w' G) (hb:b < w.heap.size) (hne:some b ≠ G):w'.rangeAt b o cs :=
  fun j v hv=>(World.cell?_of_block (a:=⟨b,o + j,none⟩) (hg.block b hb hne)).trans (h j v hv)
theorem zaF {G:Option Nat} {w w':World} {b o n:Nat} (h:w.there b o n) (hg:w.grownBy w' G) (hb:b < w.heap.size) (hne:some b ≠ G):w'.there b o n :=
  fun j hj=>⟨by rw [World.cell?_of_block (a:=⟨b,o + j,none⟩) (hg.block b hb hne)]; exact (h j hj).1,by rw [World.frozen?_of_block (a:=⟨b,o + j,none⟩) (hg.block b hb hne)]; exact (h j hj).2⟩
theorem zac {w w':World} {B:Nat} {G:Option Nat} (h:Below B w w') (hB:w.heap.size ≤ B):w.grownBy w' G :=
  ⟨h.os,h.tape,h.output,h.size,fun k hk _=>h.block k (by omega)⟩
theorem zbw {w w':World} {G:Option Nat} {B:Nat} (h:w.grownBy w' G) (hG:∀ g,G = some g→B ≤ g) (hs:B ≤ w.heap.size):Below B w w' :=
  ⟨h.os,h.tape,h.output,h.size,fun k hk=>h.block k (by omega) (fun e=>by have:=hG k e.symm; omega)⟩
section
variable {α:Type} (f:α→List Value) (sz:Nat)

def RdR (w:World) (v:Value) (l:List α):Prop :=
  ∃ (a:Option Addr) (cap:Nat),v = .slice a l.length cap∧l.length ≤ 1073741824 ∧
    (l ≠ []→∃ b off,a = some ⟨b,off,none⟩∧b < w.heap.size∧∀ i c,l[i]? = some c→w.rangeAt b (off + i * sz) (f c))
def OwnR (B:Nat) (w:World) (v:Value) (l:List α):Prop :=
  ∃ (a:Option Addr) (cap:Nat),v = .slice a l.length cap∧l.length ≤ 1073741824 ∧
    (l ≠ []→∃ g,a = some ⟨g,0,none⟩∧B ≤ g∧g < w.heap.size∧(∀ i c,l[i]? = some c→w.rangeAt g (0 + i * sz) (f c))∧w.there g 0 (l.length * sz))
def FillR (n B:Nat) (w wr:World) (done:List α):Prop :=
  B < wr.heap.size∧done.length ≤ n∧(∀ i c,done[i]? = some c→wr.rangeAt B (0 + i * sz) (f c))∧wr.there B 0 (n * sz)∧Below B w wr
variable {f sz}

theorem zar {B:Nat} {w:World} {v:Value} {l:List α} (h:OwnR f sz B w v l):RdR f sz w v l:=by
  obtain ⟨a,cap,rfl,hl,h⟩:=h
  refine ⟨a,cap,rfl,hl,fun hne=>?_⟩
  obtain ⟨g,rfl,_,h2,h3,_⟩:=h hne
  exact ⟨g,0,rfl,h2,h3⟩
theorem zj {C:Nat} {w w':World} {v:Value} {l:List α} (h:RdR f sz w v l) (hb:Below C w w') (hC:w.heap.size ≤ C):RdR f sz w' v l:=by
  obtain ⟨a,cap,rfl,hl,h⟩:=h
  refine ⟨a,cap,rfl,hl,fun hne=>?_⟩
  obtain ⟨b,off,rfl,h1,h2⟩:=h hne
  exact ⟨b,off,rfl,Nat.lt_of_lt_of_le h1 hb.size,fun i c hc=>zb (h2 i c hc) hb (Nat.lt_of_lt_of_le h1 hC)⟩
theorem zN {B C:Nat} {w w':World} {v:Value} {l:List α} (h:OwnR f sz B w v l) (hb:Below C w w') (hC:w.heap.size ≤ C):OwnR f sz B w' v l:=by
  obtain ⟨a,cap,rfl,hl,h⟩:=h
  refine ⟨a,cap,rfl,hl,fun hne=>?_⟩
  obtain ⟨g,rfl,h0,h1,h2,h3⟩:=h hne
  exact ⟨g,rfl,h0,Nat.lt_of_lt_of_le h1 hb.size,fun i c hc=>zb (h2 i c hc) hb (Nat.lt_of_lt_of_le h1 hC),zf h3 hb (Nat.lt_of_lt_of_le h1 hC)⟩
theorem ownR_grown {B:Nat} {G:Option Nat} {w w':World} {v:Value} {l:List α} (h:OwnR f sz B w v l) (hg:w.grownBy w' G) (hne':l ≠ []→v.ownBlock ≠ G):OwnR f sz B w' v l:=by
  obtain ⟨a,cap,rfl,hl,h⟩:=h
  refine ⟨a,cap,rfl,hl,fun hne=>?_⟩
  obtain ⟨g,rfl,h0,h1,h2,h3⟩:=h hne
  exact ⟨g,rfl,h0,Nat.lt_of_lt_of_le h1 hg.size,fun i c hc=>zu (h2 i c hc) hg h1 (hne' hne),zaF h3 hg h1 (hne' hne)⟩
theorem rdR_grown {G:Option Nat} {w w':World} {v:Value} {l:List α} (h:RdR f sz w v l) (hg:w.grownBy w' G) (hG:∀ g,G = some g→w.heap.size ≤ g):RdR f sz w' v l:=by
  obtain ⟨a,cap,rfl,hl,h⟩:=h
  refine ⟨a,cap,rfl,hl,fun hne=>?_⟩
  obtain ⟨b,off,rfl,h1,h2⟩:=h hne
  exact ⟨b,off,rfl,Nat.lt_of_lt_of_le h1 hg.size,fun i c hc=>zu (h2 i c hc) hg h1 (fun e=>by have:=hG b e.symm; omega)⟩
theorem ownR_lt {B:Nat} {w:World} {v:Value} {l:List α} (h:OwnR f sz B w v l) (hne:l ≠ []):∃ g,v.ownBlock = some g∧B ≤ g∧g < w.heap.size:=by
  obtain ⟨a,cap,rfl,hl,h⟩:=h
  obtain ⟨g,rfl,h0,h1,_⟩:=h hne
  exact ⟨g,rfl,h0,h1⟩
theorem zC {B:Nat} {w:World} (b:Nat) (hb:B ≤ b):∀ (vs:List Value) (o:Nat) (wr:World),Below B w wr→Below B w (wr.setCells b o vs)
  | [],_,_,h=>h
  | v :: r,o,wr,h=>by rw [World.setCells]; exact zC b hb r (o + 1) _ (h.setCell (show B ≤ (⟨b,o,none⟩:Addr).block from hb) v)
theorem zB (b:Nat):∀ (vs:List Value) (o:Nat) (wr:World),(wr.setCells b o vs).heap.size = wr.heap.size
  | [],_,_=>rfl
  | v :: r,o,wr=>by rw [World.setCells,zB b r (o + 1)]; simp [World.setCell]
theorem zaj {w:World} {g n t:Nat} {cur:Array Value} (hg:w.heap[g]? = some (.cells cur t (0,0))) (hn:n ≤ cur.size):w.there g 0 n:=fun j hj =>
  ⟨by rw [cell_of_row w g (0 + j) cur t (0,0) hg,Array.getElem?_eq_getElem (by omega)]; rfl,by simp [World.frozen?,hg]⟩
theorem fill_made {w w':World} {n e:Nat} {xs:List Value} (h:w'.ownsRow w.heap.size e sz (.slice (some ⟨w.heap.size,0,none⟩) n n) n xs) (hg:w.grownBy w' none):FillR f sz n w.heap.size w w' []:=by
  rcases h.2 with ⟨h0,_⟩ | ⟨g,cap,cur,hv,_,hh,_,_,hcur,_⟩
  · simp at h0
  · simp only [Value.slice.injEq,Option.some.injEq,Addr.mk.injEq,and_true,true_and] at hv
    obtain ⟨rfl,rfl⟩:=hv
    exact ⟨(Array.getElem?_eq_some_iff.1 hh).1,Nat.zero_le _,by simp,zaj hh (by omega),(Below.refl _ w).grown hg (Nat.le_refl _) (fun k hk=>by simp at hk)⟩
theorem fill_below {n B C:Nat} {w wr wr':World} {done:List α} (h:FillR f sz n B w wr done) (hb:Below C wr wr') (hC:wr.heap.size ≤ C):FillR f sz n B w wr' done:=by
  obtain ⟨h1,h2,h3,h4,h5⟩:=h
  exact ⟨Nat.lt_of_lt_of_le h1 hb.size,h2,fun i c hc=>zb (h3 i c hc) hb (by omega),zf h4 hb (by omega),h5.trans (hb.mono (by omega))⟩
theorem fill_step {n B:Nat} {w wr:World} {done:List α} (x:α) (h:FillR f sz n B w wr done) (hn:done.length < n) (hf:∀ c,(f c).length = sz):FillR f sz n B w (wr.setCells B (done.length * sz) (f x)) (done ++ [x]):=by
  obtain ⟨h1,h2,h3,h4,h5⟩:=h
  have hle:done.length * sz + sz ≤ n * sz:=by
    have:=Nat.mul_le_mul_right sz (show done.length + 1 ≤ n by omega)
    rw [Nat.add_mul] at this; omega
  refine ⟨by rw [zB]; exact h1,by simp; omega,fun i c hc=>?_,World.there_setCells h4 _ _ _,zC B (Nat.le_refl _) _ _ _ h5⟩
  by_cases hi:i < done.length
  · rw [List.getElem?_append_left hi] at hc
    refine World.rangeAt_setCells_apart (h3 i c hc) _ _ _ (.inr (.inl ?_))
    rw [hf c]
    have:=Nat.mul_le_mul_right sz (show i + 1 ≤ done.length by omega)
    rw [Nat.add_mul] at this; omega
  · have hlen:i < (done ++ [x]).length:=(List.getElem?_eq_some_iff.1 hc).1
    have hi':i = done.length:=by simp at hlen; omega
    subst hi'
    simp only [List.getElem?_append_right (Nat.le_refl _),Nat.sub_self,List.getElem?_cons_zero,Option.some.injEq] at hc
    subst hc
    rw [Nat.zero_add]
    exact World.rangeAt_setCells_same _ _ _ _ (fun j hj=>by
      have:=h4 (done.length * sz + j) (by rw [hf] at hj; omega)
      rw [Nat.zero_add] at this; exact this)
theorem fill_own {n B:Nat} {w wr:World} {l:List α} (h:FillR f sz n B w wr l) (hl:l.length = n) (hn:n ≤ 1073741824):OwnR f sz B wr (.slice (some ⟨B,0,none⟩) n n) l:=by
  obtain ⟨h1,h2,h3,h4,h5⟩:=h
  exact ⟨_,n,by rw [hl],by omega,fun _=>⟨B,rfl,Nat.le_refl _,h1,h3,by rw [hl]; exact h4⟩⟩
theorem fill_there {n B i:Nat} {w wr:World} {done:List α} (h:FillR f sz n B w wr done) (hi:i < n):wr.there B (i * sz) sz:=fun j hj=>by
  have hle:=Nat.mul_le_mul_right sz (show i + 1 ≤ n by omega)
  rw [Nat.add_mul] at hle
  have:=h.2.2.2.1 (i * sz + j) (by omega)
  rw [Nat.zero_add] at this; exact this
theorem flat_get (hf:∀ c,(f c).length = sz):∀ (l:List α) (i j:Nat) (c:α),l[i]? = some c→j < sz→(l.flatMap f)[i * sz + j]? = (f c)[j]?
  | [],_,_,_,h,_=>by simp at h
  | a :: l,0,j,c,h,hj=>by
    simp at h; subst h
    rw [List.flatMap_cons,List.getElem?_append_left (by rw [hf]; omega)]; simp
  | a :: l,i + 1,j,c,h,hj=>by
    simp at h
    rw [List.flatMap_cons,List.getElem?_append_right (by rw [hf,Nat.add_mul]; omega),hf,← flat_get hf l i j c h hj]
    congr 1
    rw [Nat.add_mul]; omega
theorem zO (hf:∀ c,(f c).length = sz):∀ (l:List α),(l.flatMap f).length = l.length * sz
  | []=>by simp
  | a :: l=>by rw [List.flatMap_cons,List.length_append,hf,zO hf l,List.length_cons,Nat.add_mul]; omega
theorem zan {B e:Nat} {w:World} {v:Value} {l:List α} (hf:∀ c,(f c).length = sz) (hl:l.length ≤ 1073741824) (h:w.ownsRow B e sz v l.length (l.flatMap f)):OwnR f sz B w v l:=by
  rcases h.2 with ⟨rfl,h0⟩ | ⟨g,cap,cur,rfl,hb,hg,hcap,_,hcur,htake⟩
  · exact ⟨none,0,by rw [h0],hl,fun hne=>absurd (List.length_eq_zero_iff.1 h0) hne⟩
  · have hle:=Nat.mul_le_mul_right sz hcap
    refine ⟨_,cap,rfl,hl,fun _=>⟨g,rfl,hb,(Array.getElem?_eq_some_iff.1 hg).1,fun i c hc j u hu=>?_,zaj hg (by omega)⟩⟩
    have hj:j < sz:=by rw [← hf c]; exact (List.getElem?_eq_some_iff.1 hu).1
    have h2:=flat_get hf l i j c hc hj
    have hlt:i * sz + j < l.length * sz:=by
      have:=Nat.mul_le_mul_right sz (show i + 1 ≤ l.length from (List.getElem?_eq_some_iff.1 hc).1)
      rw [Nat.add_mul] at this; omega
    rw [← htake,List.getElem?_take,if_pos hlt] at h2
    rw [cell_of_row w g _ cur e (0,0) hg,Nat.zero_add]
    simpa using h2.trans hu
end
end Go.Proofs.YtdfihaabhichdaaGreat
