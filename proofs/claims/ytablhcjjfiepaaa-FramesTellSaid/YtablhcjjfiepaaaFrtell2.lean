/- Frames: what the document's clock takes, and where a page is, what is dirty. -/
import Derived.Test.YtablhcjjfiepaaaFrtell
import Derived.Test.YtablhcjjfiepaaaFrtwinr
import Derived.Test.YtablhcjjfiepaaaFramesClock
namespace Go.Proofs.Ytablhcjjfiepaaa
open Go.Eng
set_option linter.unusedVariables false
set_option linter.unusedSimpArgs false
def wrdN (l : List FrT) : Nat → List Int
 | 0=>[]
 | i+1=>wrdN l i++(if (l.getD i z0F).2.2.2.2.2.1=true then [(i : Int)] else [])
theorem xKi (l : List FrT) : ∀ i, (wrdN l i).length ≤ i
 | 0=>Nat.le_refl _
 | i+1=>by
  have:=xKi l i
  simp only [wrdN,List.length_append]
  split<;>simp<;>omega
theorem wZb (l : List FrT) (hl : l.length≤1000) : Dat.loop (fun (s3 : List Int×Int) k4 =>
 (bif (Dat.ilt s3.2 (Dat.ofN (Dat.len l))) then if (Dat.Ix s3.2 (Dat.len l)) then Dat.bnd (Dat.get l (Dat.toN s3.2) zFr) fun x7 =>
 (bif x7.2.2.2.2.2.1 then if (Dat.Le (Dat.addN 0 1) (Dat.len (s3.2::([] : List Int)))) then if (Dat.Big (Dat.len s3.1) (Dat.len (Dat.seg (s3.2::([] : List Int)) 0 1)) 8) then none
 else if (Dat.EqN (Dat.len s3.1) (Dat.len s3.1)) then Dat.bnd (Dat.app s3.1 (Dat.seg (s3.2::([] : List Int)) 0 1)) fun x14 =>
 Dat.bnd (Dat.wrap .i64 (Dat.add s3.2 1)) fun x15 =>
 if (Dat.EqN (Dat.len x14) (Dat.len x14)) then k4 (x14,x15)
 else none
 else none
 else none
 else Dat.bnd (Dat.wrap .i64 (Dat.add s3.2 1)) fun x18 =>
 if (Dat.EqN (Dat.len s3.1) (Dat.len s3.1)) then k4 (s3.1,x18)
 else none)
 else none
 else some s3.1)) (([] : List Int),0)=some (wrdN l l.length):=by
  refine zQ2 (fun (s : List Int×Int)=>∃ i : Nat,s=(wrdN l i,(i : Int))∧i≤l.length) (fun s=>l.length - s.2.toNat) ?_ ⟨0,rfl,Nat.zero_le _⟩ (zK1 _ _ (by omega))
  rintro s k ⟨i,rfl,hi⟩ hk
  dsimp only at hk ⊢
  by_cases hlt : i < l.length
  · refine zQi (decide_eq_true (by simp only [Dat.ofN, Dat.len]; omega)) ?_
    refine zQb (show Dat.Ix (i : Int) (Dat.len l) from ⟨by omega,by simp only [Dat.len]; omega⟩) (zQe (fget l hlt) ?_)
    have hd : l.getD i z0F=l[i]:=yKg hlt
    have hi1 : Dat.wrap .i64 (Dat.add (i : Int) 1)=((i+1 : Nat) : Int):=(zZh (x:=Dat.add (i : Int) 1) (by simp only [Dat.add]; omega)).trans (by simp [Dat.add])
    have hw:=xKi l i
    cases hx : l[i].2.2.2.2.2.1 with
    | true =>
      refine zQi rfl ?_
      refine zQb (by simp [Dat.Le,Dat.len]) ?_
      refine zXh (yJt (by simp only [Dat.len]; omega) (by simp [Dat.len,Dat.seg]) (by omega)) ?_
      refine zQb rfl (zQe (y:=wrdN l (i+1)) ?_ (zQe hi1 (zQb rfl ?_)))
      · show _ = wrdN l i ++ (if (l.getD i z0F).2.2.2.2.2.1 = true then [(i : Int)] else [])
        rw [hd,hx]
        simp [Dat.app,Dat.seg]
      · exact hk _ ⟨i+1,rfl,hlt⟩ (by simp only []; omega)
    | false =>
      refine zQh rfl ?_
      refine zQe hi1 (zQb rfl ?_)
      refine hk _ ⟨i+1, ?_,hlt⟩ (by simp only []; omega)
      show (wrdN l i,_)=(wrdN l i++(if (l.getD i z0F).2.2.2.2.2.1=true then [(i : Int)] else []),_)
      rw [hd,hx]
      simp
  · have e : i = l.length := by omega
    subst e
    exact zQh (decide_eq_false (by simp only [Dat.ofN,Dat.len]; omega)) rfl
theorem yZr (l : List FrT) (h : Int) (hl : l.length≤1000) : zJh (l,(h,()))=some (wrdN l l.length):=by
 unfold zJh
 exact zQb rfl (wZb l hl)
theorem yYq (c : CfgT) (l : List FrT) (h : Int) (hs : zW0 l) : zY8 (c,(l,(h,())))=some (if chkF c l h=0 then wrdN l l.length else []):=by
 unfold zY8
 dsimp only
 refine zQp (zZr c l h hs) ?_
 by_cases hc : chkF c l h=0
 ·rw [if_pos hc]
  refine zQh (by simp [Dat.ine,hc]) ?_
  exact zQp (yZr l h (by have:=hs.1; omega)) rfl
 ·rw [if_neg hc]
  exact zQi (by simp [Dat.ine,hc]) rfl
theorem yJo (c : CfgT) (l : List FrT) (h : Int) (hs : zW0 l) : zYb (c,(l,(h,())))=some (if chkF c l h=0 then wrdN l l.length else []):=by
 unfold zYb
 dsimp only
 refine zQp (xYf hs) ?_
 by_cases hc : chkF c l h=0
 ·rw [if_pos hc]
  refine zQh (by simp [Dat.ine,hc]) ?_
  exact zQb rfl (wZb l (by have:=hs.1; omega))
 ·rw [if_neg hc]
  exact zQi (by simp [Dat.ine,hc]) rfl
theorem xQw (c : CfgT) (l : List FrT) (h pg : Int) (hs : zW0 l) :
  yW6 (c,((l,(h,())),pg))=some (if chkF c l h=0 then (match atF l pg with | some i=>((i : Int),true) | none=>(0,false)) else (0,false)):=by
 unfold yW6
 dsimp only
 refine zQp (zZr c l h hs) ?_
 by_cases hc : chkF c l h=0
 ·rw [if_pos hc]
  refine zQh (by simp [Dat.ine,hc]) ?_
  refine zQp (yZt l h pg hs) ?_
  cases ha : atF l pg with
  | none=>exact zQi rfl rfl
  | some i =>
   refine zQh (by simp [Dat.zQg,Dat.ilt]) ?_
   refine zQp (yZt l h pg hs) ?_
   rw [ha]
 ·rw [if_neg hc]
  exact zQi (by simp [Dat.ine,hc]) rfl
theorem uQr {c : CfgT} {x : FrT} (h : okF c x=true) (hr : x.2.2.2.2.1=true) : x.1=1∨x.1=2:=by
 unfold okF at h
 by_cases h0 : x.1=0
 ·rw [if_pos h0] at h; simp [hr] at h
 ·by_cases h1 : x.1 = 1
  ·exact .inl h1
  ·by_cases h2 : x.1 = 2
   ·exact .inr h2
   ·rw [if_neg h0,if_neg h1,if_neg h2] at h; simp at h
theorem vQa {α : Type} (L : List α) {n : Nat} (h : L.length=n) : Dat.seg L 0 n=L:=by
 simp only [Dat.seg,List.drop_zero]
 rw [List.take_of_length_le (by omega)]
def clkS (l : List FrT) (h : Int) : (List FrT×(Int×Unit))×Int :=
 match clk l.length h.toNat (2 * l.length) 0 l with
 | (L,some p)=>((L,(((p+1) % l.length : Nat) : Int),()),(p : Int))
 | (L,none)=>((L,h,()), -1)
theorem yYr (c : CfgT) (l : List FrT) (h : Int) (hs : zW0 l) (hc : chkF c l h=0) : zY9 (l,(h,()))=some (clkS l h):=by
  obtain ⟨hm,hn,⟨hh0,hh1⟩,hall,hnd⟩:=vXa hc
  have hl0 : 0 < l.length:=by omega
  have hl20:=hs.1
  unfold zY9
  dsimp only
  refine zQp (yQ3 l h hs) ?_
  refine iteN (show ¬ l.length=0 by omega) ?_
  obtain ⟨hN,hNe⟩ : ∃ n : Nat,h=n:=⟨h.toNat,by omega⟩
  subst hNe
  have hhn : ((hN : Int)).toNat=hN:=by simp
  refine zQ2 (fun (s : Int × List FrT) => ∃ (i m : Nat), s.1 = i ∧ i + m = 2 * l.length ∧ s.2.length = l.length ∧ zW0 s.2 ∧ (∀ x ∈ s.2, x.2.2.2.2.1 = true → x.1 = 1 ∨ x.1 = 2) ∧ clk l.length hN m i s.2 = clk l.length hN (2 * l.length) 0 l)
    (fun s=>2 * l.length - s.1.toNat) ?_ ⟨0,2 * l.length,rfl,by omega,rfl,hs,fun x hx=>uQr (List.all_eq_true.1 hall x hx),rfl⟩ (by simp only []; omega)
  rintro ⟨s1,L⟩ k ⟨i,m,rfl,him,hL,hsm,hrf,hcl⟩ hk
  dsimp only at hL hsm hrf hcl hk ⊢
  refine zQe (y:=2 * (l.length : Int)) (zZh (x:=Dat.mul 2 (Dat.ofN (Dat.len l))) (by simp only [Dat.mul,Dat.ofN,Dat.len]; omega)) ?_
  by_cases hi : i < 2 * l.length
  · obtain ⟨m, rfl⟩ : ∃ q, m = q + 1 := ⟨m - 1, by omega⟩
    have hp : (hN+i) % l.length < L.length:=by rw [hL]; exact Nat.mod_lt _ hl0
    rw [clk,yY6 L hp] at hcl
    refine zQi (decide_eq_true (by omega)) ?_
    refine zQe (y:=((hN+i : Nat) : Int)) ((zZh (x:=Dat.add (hN : Int) (i : Int)) (by simp only [Dat.add]; omega)).trans (by simp [Dat.add])) ?_
    refine zXh (show ¬ ((l.length : Int)=0) by omega) ?_
    refine zQe (y:=(((hN+i) % l.length : Nat) : Int)) (by simp only [Dat.tmod,Dat.ofN,Dat.len]; exact (Int.ofNat_tmod _ _).symm) ?_
    generalize (hN+i) % l.length=p at hp hcl
    have hin : Dat.In (p : Int) (Dat.len l):=⟨by omega,by simp only [Dat.len]; omega⟩
    have hlt2 : Dat.Lt (Dat.addN 0 (Dat.toN (p : Int))) (Dat.len L):=by simp [Dat.Lt,Dat.len,hp]
    refine zQb hin (zQb hlt2 ?_)
    refine zQe (fget0 L hp) ?_
    have hi1 : Dat.wrap .i64 (Dat.add (i : Int) 1)=((i+1 : Nat) : Int):=(zZh (x:=Dat.add (i : Int) 1) (by simp only [Dat.add]; omega)).trans (by simp [Dat.add])
    have hp1 : Dat.wrap .i64 (Dat.add (p : Int) 1)=((p+1 : Nat) : Int):=(zZh (x:=Dat.add (p : Int) 1) (by simp only [Dat.add]; omega)).trans (by simp [Dat.add])
    have hsp:=hsm.2 _ (List.getElem_mem hp)
    have hrp:=hrf _ (List.getElem_mem hp)
    have hle : Dat.Le (Dat.addN 0 (Dat.len l)) (Dat.len L):=by simp only [Dat.Le,Dat.len,Dat.addN]; omega
    have hsg : Dat.seg L 0 (Dat.len l)=L:=vQa L hL
    by_cases k1 : L[p].1=1
    · refine zQi (decide_eq_true k1) ?_
      refine zQe hi1 ?_
      rw [if_pos (by simp [yZn,k1])] at hcl
      exact hk _ ⟨i+1,m,rfl,by omega,hL,hsm,hrf,hcl⟩ (by simp only []; omega)
    · refine zQh (decide_eq_false k1) ?_
      refine zQp (yK7 L[p] (by omega)) ?_
      cases hpin : pinB L[p].2.2.2.1 with
      | true =>
        refine zQi rfl ?_
        refine zQe hi1 ?_
        rw [if_pos (by simp [yZn,hpin])] at hcl
        exact hk _ ⟨i+1,m,rfl,by omega,hL,hsm,hrf,hcl⟩ (by simp only []; omega)
      | false =>
        refine zQh rfl ?_
        rw [if_neg (by simp [yZn,hpin,k1])] at hcl
        have fin : L[p].2.2.2.2.1=false→clkS l (hN : Int)=((L,(((p+1) % l.length : Nat) : Int),()),(p : Int)):=fun href=>by
          rw [href,if_neg (by simp)] at hcl
          unfold clkS
          rw [hhn,← hcl]
        by_cases k2 : L[p].1=2
        · refine zQi (decide_eq_true k2) ?_
          cases href : L[p].2.2.2.2.1 with
          | true =>
            rw [href,if_pos rfl] at hcl
            refine zQi (by simp [Dat.zQg]) ?_
            refine zQb hin (zQb hlt2 ?_)
            refine zQe (fget0 L hp) ?_
            refine zQe (y:=L.set p (clr L[p])) (by simp only [Dat.set,Dat.toN,Dat.addN,Nat.zero_add,Int.toNat_natCast]; rfl) ?_
            refine zQe hi1 ?_
            refine hk _ ⟨i+1,m,rfl,by omega,by simpa using hL,⟨by simpa using hsm.1,fun x hx=>?_⟩,fun x hx=>?_,hcl⟩ (by simp only []; omega)
            · rcases List.mem_or_eq_of_mem_set hx with hx | rfl
              · exact hsm.2 x hx
              · exact hsp
            · rcases List.mem_or_eq_of_mem_set hx with hx | rfl
              · exact hrf x hx
              · intro hr; simp [clr] at hr
          | false =>
            refine zQh (by simp [Dat.zQg]) ?_
            refine zQe hp1 ?_
            refine zXh (show ¬ ((l.length : Int)=0) by omega) ?_
            refine zQe (y:=(((p+1) % l.length : Nat) : Int)) (by simp only [Dat.tmod,Dat.ofN,Dat.len]; exact (Int.ofNat_tmod _ _).symm) ?_
            refine zQb hle ?_
            rw [hsg,fin href]
        · have href : L[p].2.2.2.2.1=false:=by
            cases hr : L[p].2.2.2.2.1 with
            | false=>rfl
            | true => rcases hrp hr with e | e
                      · exact absurd e k1
                      · exact absurd e k2
          refine zQh (decide_eq_false k2) ?_
          refine zQe hp1 ?_
          refine zXh (show ¬ ((l.length : Int)=0) by omega) ?_
          refine zQe (y:=(((p+1) % l.length : Nat) : Int)) (by simp only [Dat.tmod,Dat.ofN,Dat.len]; exact (Int.ofNat_tmod _ _).symm) ?_
          refine zQb hle ?_
          rw [hsg,fin href]
  · have hm0 : m = 0 := by omega
    subst hm0
    refine zQh (decide_eq_false (by omega)) ?_
    refine zQb (by simp only [Dat.Le,Dat.len,Dat.addN]; omega) ?_
    have hsg : Dat.seg L 0 (Dat.len l)=L:=vQa L hL
    rw [hsg]
    unfold clkS
    rw [hhn,← hcl]
    rfl
theorem yK6 (c : CfgT) (l : List FrT) (h : Int) (hs : zW0 l) : zJ6 (c,(l,(h,())))=some (if chkF c l h=0 then vicS l h else (([],0,()),0,chkF c l h)):=by
 unfold zJ6
 dsimp only
 refine zQp (zZr c l h hs) ?_
 by_cases hc : chkF c l h=0
 ·rw [if_pos hc]
  refine zQh (by simp [Dat.ine,hc]) ?_
  refine zQp (yYr c l h hs hc) ?_
  unfold clkS vicS
  cases hk : clk l.length h.toNat (2 * l.length) 0 l with
  | mk L o =>
   cases o with
   | none=>exact zQi rfl rfl
   | some p=>exact zQh (decide_eq_false (by simp only []; omega)) rfl
 ·rw [if_neg hc]
  have h8 : chkF c l h=8:=(vKj c l h).resolve_left hc
  rw [h8]
  exact zQi rfl rfl
end Go.Proofs.Ytablhcjjfiepaaa
