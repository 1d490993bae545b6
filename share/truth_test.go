package share_test

import (
	"math/big"
	"math/rand/v2"
	"slices"
	"testing"

	"azalai/api"
	"azalai/share"
)

// P8.1, P8.6, P8.7: each part is less than a rial from what it would be exactly, all of them are the result, and who has no weight has no part.
func TestDivideTruths(t *testing.T) {
	r := rand.New(rand.NewPCG(8, 1))
	rial, ties, most := big.NewRat(1, 1), 0, 0
	for i := range 20000 {
		p := somePact(r)
		result := r.IntN(200) - 100
		if i%2 == 0 {
			result = r.IntN(20000000001) - 10000000000
			for k := range p.Partners {
				p.Partners[k].Put = r.IntN(2) * r.IntN(100000001)
			}
			p.Partners[0].Put++
			most = max(most, result)
		}
		wantDivided(t, p, result, partsOf(p, result)...)
		parts, _ := share.Divide(p, result)
		sum := 0
		for k, exact := range exactParts(p, result) {
			sum += parts[k]
			far := new(big.Rat).Sub(exact, new(big.Rat).SetInt64(int64(parts[k])))
			if far.Abs(far).Cmp(rial) >= 0 || parts[k] < 0 && result > 0 || parts[k] > 0 && result < 0 || exact.Sign() == 0 && parts[k] != 0 {
				t.Errorf("%+v %d: %v", p, result, parts)
			}
			if k > 0 && far.Sign() != 0 && p.Partners[k].Share == p.Partners[0].Share && result > 0 && parts[k] != parts[0] {
				ties++
			}
		}
		if sum != result {
			t.Errorf("%+v %d: %v", p, result, parts)
		}
		if t.Failed() {
			t.FailNow()
		}
	}
	if ties < 100 || most < 9000000000 {
		t.Error(ties, most)
	}
}

// P8.2, P8.3: which letters are done, why they are void, what each one has and owes, by the chapter told otherwise.
func TestLedgers(t *testing.T) {
	r := rand.New(rand.NewPCG(8, 2))
	voids, losses, kept := [6]int{}, 0, 0
	for range 5000 {
		p := somePact(r)
		l := someLetters(r, p)
		g := ledgerOf(p, l)
		wantRead(t, p, l, g.read, g.why)
		wantSettled(t, p, l, g.settled()...)
		for _, a := range p.Partners {
			for _, b := range p.Partners {
				if a != b {
					wantOwed(t, p, l, a.Id, b.Id, g.owed(a.Id, b.Id))
					kept += min(1, g.owed(a.Id, b.Id))
				}
			}
		}
		if t.Failed() {
			t.FailNow()
		}
		for _, why := range g.why {
			voids[why]++
		}
		if has := g.settled(); has[0] < p.Partners[0].Put {
			losses++
		}
	}
	if slices.Min(voids[:]) < 200 || losses < 500 || kept < 1000 {
		t.Error(voids, losses, kept)
	}
}

// P8.5: in whatever order letters come, and however often, all have the same at last.
func TestAnyOrder(t *testing.T) {
	r := rand.New(rand.NewPCG(8, 3))
	for range 2000 {
		p := somePact(r)
		l := someLetters(r, p)
		g := ledgerOf(p, l)
		spans, e := share.Surely(p, l)
		for range 5 {
			again := mixed(r, l)
			wantRead(t, p, again, g.read, g.why)
			wantSettled(t, p, again, g.settled()...)
			if e == api.OK {
				wantSurely(t, p, again, spans...)
			}
		}
		if t.Failed() {
			t.FailNow()
		}
	}
}

// P8.5: as many letters as there can be tell of the same calf, and one is paid.
func TestOneCalf(t *testing.T) {
	p := pact(one(1, 0, 1000), one(2, 1, 0))
	p.Calf, p.Hire = 1000, 0
	l := letters(lent(0, 0, 2, 7))
	for id := 1; id < 100; id++ {
		l = append(l, calf(id, 101-id, 7, 8, id))
	}
	// That of the day 2 comes last, and is the first one.
	wantSettled(t, p, l, 0, 1+99)
	wantSettled(t, p, l[:99], 0, 1+98)
}

// P8.6: what all have is what they put in, and was got, and what all calves are worth, less what was spent.
func TestNoRialIsLost(t *testing.T) {
	r := rand.New(rand.NewPCG(8, 4))
	for range 5000 {
		p := somePact(r)
		l := someLetters(r, p)
		read, why, _ := share.Read(p, l)
		has, e := share.Settle(p, l)
		left := 0
		for i, one := range p.Partners {
			left += one.Put - has[i]
		}
		for i, letter := range read {
			switch {
			case why[i] != api.VoidNot:
			case letter.Kind == api.LetterSold, letter.Kind == api.LetterCalf:
				left += letter.Rials
			case letter.Kind == api.LetterSpent:
				left -= letter.Rials
			}
		}
		if left != 0 || e != api.OK {
			t.Fatalf("%+v %+v: %v %v %d", p, l, has, e, left)
		}
	}
}

// P8.7: who put in nothing bears nothing, and nobody gets a profit without a share, by any letters about money.
func TestMoneyAlone(t *testing.T) {
	r := rand.New(rand.NewPCG(8, 5))
	seen := [2]int{}
	for range 5000 {
		p := somePact(r)
		var l []api.Letter
		for _, letter := range someLetters(r, p) {
			if letter.Kind <= api.LetterSpent {
				l = append(l, letter)
			}
		}
		has, _ := share.Settle(p, l)
		for i, one := range p.Partners {
			if one.Put == 0 && has[i] < 0 || one.Share == 0 && has[i] > one.Put {
				t.Fatalf("%+v %+v: %v", p, l, has)
			}
			if one.Put == 0 {
				seen[0]++
			}
			if one.Share == 0 {
				seen[1]++
			}
		}
	}
	if slices.Min(seen[:]) < 500 {
		t.Error(seen)
	}
}

// P8.8: without the letters that are void, or one of them, all is the same; nobody owes less than nothing.
func TestVoidChangesNothing(t *testing.T) {
	r := rand.New(rand.NewPCG(8, 6))
	voids := 0
	for range 3000 {
		p := somePact(r)
		l := someLetters(r, p)
		read, why, _ := share.Read(p, l)
		has, _ := share.Settle(p, l)
		var valid []api.Letter
		for i, letter := range read {
			if why[i] == api.VoidNot {
				valid = append(valid, letter)
				continue
			}
			voids++
			wantRead(t, p, slices.Concat(read[:i], read[i+1:]), slices.Concat(read[:i], read[i+1:]), slices.Concat(why[:i], why[i+1:]))
		}
		wantRead(t, p, valid, valid, make([]uint8, len(valid)))
		wantSettled(t, p, valid, has...)
		for _, a := range p.Partners {
			for _, b := range p.Partners {
				if n, _ := share.Owed(p, l, a.Id, b.Id); n < 0 {
					t.Errorf("%+v %+v: %d owes %d %d", p, l, a.Id, b.Id, n)
				}
			}
		}
		if t.Failed() {
			t.FailNow()
		}
	}
	if voids < 3000 {
		t.Error(voids)
	}
}

// P8.4, P8.9: what each one has is in what is told, whatever of what was told by mouth is true, and each end is reached.
func TestSurelyTruths(t *testing.T) {
	r := rand.New(rand.NewPCG(8, 7))
	mouths, wide := [7]int{}, 0
	for range 2000 {
		p := somePact(r)
		l := someLetters(r, p)
		var mouth []int
		for i, letter := range l {
			if letter.Mouth && letter.Day <= p.Ends {
				mouth = append(mouth, i)
			}
		}
		if len(mouth) > 6 {
			call{p: p, l: l}.wantErrors(t, api.ErrMouth, "Surely")
			continue
		}
		want := make([]api.Span, len(p.Partners))
		for set := range 1 << len(mouth) {
			var said []api.Letter
			for i, letter := range l {
				if k := slices.Index(mouth, i); k < 0 || set>>k&1 == 1 {
					said = append(said, letter)
				}
			}
			for i, has := range ledgerOf(p, said).settled() {
				if set == 0 {
					want[i] = span(has, has)
				}
				want[i] = span(min(want[i].Lo, has), max(want[i].Hi, has))
			}
		}
		wantSurely(t, p, mixed(r, l), want...)
		if t.Failed() {
			t.FailNow()
		}
		mouths[len(mouth)]++
		if want[0].Lo < want[0].Hi {
			wide++
		}
	}
	if slices.Min(mouths[:]) < 3 || wide < 500 {
		t.Error(mouths, wide)
	}
}
