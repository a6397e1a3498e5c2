package tests

import (
	"slices"
	"testing"

	"loop.example/selvedge/impl"
)

// plainBasis says whether nothing is left of each pair of a list that is ok, and nothing is too much.
func plainBasis(order int, list [][]impl.PolTerm) bool {
	for k := range list {
		for i := range k {
			pair := plainCouple(order, list[i], list[k])
			if !pair.ok() {
				return false
			}
			if div := plainDivide(order, pair.rest, list); !div.ok() || len(div.left) > 0 {
				return false
			}
		}
	}
	return true
}

// wantBasis asks GrbOk for what it is without the program, and tells that.
func wantBasis(t *testing.T, order int, list [][]impl.PolTerm) bool {
	t.Helper()
	want := plainBasis(order, list)
	if impl.GrbOk(order, list) != want {
		t.Fatalf("GrbOk(%d) of %s is not %v", order, listText(list), want)
	}
	return want
}

func TestGrbOkIsWhatItsPairsSay(t *testing.T) {
	yes, no := 0, 0
	count := func(ok bool) {
		if ok {
			yes++
		} else {
			no++
		}
	}
	manyGiven(460, 300, func(order int, given [][]impl.PolTerm) {
		count(wantBasis(t, order, given))
		base := impl.GrbMake(order, given, impl.GrbMaxFuel)
		count(wantBasis(t, order, base.List))
		count(wantBasis(t, order, base.List[1:]))
		count(wantBasis(t, order, base.List[:len(base.List)-1]))
		slices.Reverse(base.List)
		count(wantBasis(t, order, base.List))
		count(wantBasis(t, order%3+1, base.List))
	})
	if yes < 500 || no < 500 {
		t.Fatalf("%d were true, %d false", yes, no)
	}
}

// P46
func TestGrbOkOfEachPair(t *testing.T) {
	yes, no := 0, 0
	manyGiven(46, 600, func(order int, given [][]impl.PolTerm) {
		list := impl.GrbMake(order, given, 4).List
		nothing := true
		for _, a := range list {
			for _, b := range list {
				rest, ok := impl.SprPoly(order, a, b)
				_, left, all := impl.RedAll(order, rest, list)
				nothing = nothing && ok && all && len(left) == 0
			}
		}
		if impl.GrbOk(order, list) != nothing {
			t.Fatalf("GrbOk(%d) of %s is not %v", order, listText(list), nothing)
		}
		if nothing {
			yes++
		} else {
			no++
		}
	})
	if yes < 100 || no < 100 {
		t.Fatalf("%d were true, %d false", yes, no)
	}
}

func TestGrbOkByHand(t *testing.T) {
	for _, c := range []struct {
		order int
		list  []string
		want  bool
	}{
		{impl.OrdDeg, nil, true}, {impl.OrdLex, nil, true}, {impl.OrdOut, nil, true},
		{impl.OrdDeg, []string{"1"}, true}, {impl.OrdLex, []string{"d+x15"}, true}, {impl.OrdOut, []string{"2xd+y+100"}, true},
		{impl.OrdDeg, []string{"d", "x"}, false}, {impl.OrdDeg, []string{"d", "x", "100"}, true}, {impl.OrdDeg, []string{"7", "d", "x"}, true}, {impl.OrdDeg, []string{"d", "e"}, true}, {impl.OrdDeg, []string{"d", "y"}, true},
		{impl.OrdDeg, []string{"x2+y", "xy+1"}, false}, {impl.OrdDeg, []string{"x2+y", "xy+1", "y2+100x"}, true}, {impl.OrdDeg, []string{"x2+y", "y2+100x"}, true},
		{impl.OrdDeg, []string{"d+1", "d+1"}, true}, {impl.OrdDeg, []string{"d+1", "2d+2", "3d+3"}, true}, {impl.OrdDeg, []string{"d+1", "d+2"}, false},
		// It is the first pair, one amid all, or the last one of which something is left.
		{impl.OrdDeg, []string{"d", "x", "e"}, false}, {impl.OrdDeg, []string{"d", "e", "x"}, false}, {impl.OrdDeg, []string{"e", "d", "x"}, false},
		// What is a basis in one order is none in another one.
		{impl.OrdDeg, []string{"y2+x", "xy"}, false}, {impl.OrdLex, []string{"x+y2", "y3"}, true}, {impl.OrdDeg, []string{"x+y2", "y3"}, false}, {impl.OrdOut, []string{"x+y2", "y3"}, true},
		{impl.OrdDeg, []string{"e+x", "x2"}, true}, {impl.OrdOut, []string{"e+x", "x2"}, false}, {impl.OrdOut, []string{"e+x", "e2"}, true}, {impl.OrdLex, []string{"e+x", "e2"}, false},
		// A pair is too much, or a division is: also where a number would take all.
		{impl.OrdLex, []string{"d+x14", "x+1", "1"}, true}, {impl.OrdLex, []string{"d+x15", "x+1", "1"}, false}, {impl.OrdLex, []string{"1", "d+x15", "x+1"}, false}, {impl.OrdLex, []string{"x+1", "1", "d+x15"}, false},
		{impl.OrdLex, []string{"x+y15", "xd+xy"}, false}, {impl.OrdLex, []string{"x+y15", "1", "xd+xy"}, false}, {impl.OrdLex, []string{"1", "x+y15", "xd+xy"}, true},
	} {
		if wantBasis(t, c.order, looseOps(t, c.list...)) != c.want {
			t.Fatalf("GrbOk(%d) of %v is not %v", c.order, c.list, c.want)
		}
	}
	if !impl.GrbOk(impl.OrdDeg, [][]impl.PolTerm{}) {
		t.Fatal("GrbOk of the empty list is false")
	}
}

// A division of RedFuel steps is a division, one of more is not, though a number takes all.
func TestGrbOkAtRedFuel(t *testing.T) {
	for _, terms := range []int{impl.RedFuel, impl.RedFuel + 1} {
		a := together(map[impl.MonMon]int{{X: 1, D: 15, E: 15}: 1}, rungs(terms, impl.MonMon{}))
		if wantBasis(t, impl.OrdDeg, [][]impl.PolTerm{op(t, "3"), op(t, "yd15e15")}) != true || wantBasis(t, impl.OrdDeg, [][]impl.PolTerm{a, op(t, "yd15e15"), op(t, "3")}) != (terms <= impl.RedFuel) {
			t.Fatalf("GrbOk with a division of %d steps", terms)
		}
	}
	for n := range 2 * impl.LstMax {
		if impl.GrbOk(impl.OrdDeg, times(n, op(t, "d+1"))) != (n <= impl.LstMax) {
			t.Fatalf("GrbOk of the same one %d times", n)
		}
	}
}

// plainProves says whether a basis is proved, all of it worked out without the program.
func plainProves(b impl.GrbBase, given [][]impl.PolTerm) bool {
	if len(b.List) > impl.LstMax || len(given) > impl.LstMax || len(b.Proof) != len(b.List) {
		return false
	}
	for place, p := range b.List {
		if len(b.Proof[place]) != len(given) {
			return false
		}
		sum := plainProducts(b.Proof[place], given)
		if !sum.ok() || !slices.Equal(fromNumbers(sum.sum), p) {
			return false
		}
	}
	return true
}

// wantProves asks GrbProves, of what is ok, for what it is without the program, and whether that is wanted.
func wantProves(t *testing.T, b impl.GrbBase, given [][]impl.PolTerm, want bool) {
	t.Helper()
	if plainProves(b, given) != want {
		t.Fatalf("that %s is proved by %s is not %v", baseText(b), listText(given), want)
	}
	for _, b.Done = range []bool{true, false} {
		if impl.GrbProves(b, given) != want {
			t.Fatalf("GrbProves of %s by %s is not %v", baseText(b), listText(given), want)
		}
	}
}

func cloneBase(b impl.GrbBase) impl.GrbBase {
	clone := impl.GrbBase{List: cloneList(b.List), Done: b.Done}
	for _, proof := range b.Proof {
		clone.Proof = append(clone.Proof, cloneList(proof))
	}
	return clone
}

// changes are how a basis that is proved may be changed at one place, by name; it is proved no more.
func changes(d *dice, place int, given int) map[string]func(b *impl.GrbBase) {
	five := []impl.PolTerm{{C: 5}}
	return map[string]func(b *impl.GrbBase){
		"a proof too few":       func(b *impl.GrbBase) { b.Proof = slices.Delete(b.Proof, place, place+1) },
		"a proof too many":      func(b *impl.GrbBase) { b.Proof = append(b.Proof, b.Proof[place]) },
		"no proof at all":       func(b *impl.GrbBase) { b.Proof = nil },
		"one operator fewer":    func(b *impl.GrbBase) { b.List = slices.Delete(b.List, place, place+1) },
		"one operator more":     func(b *impl.GrbBase) { b.List = append(b.List, b.List[place]) },
		"a proof one shorter":   func(b *impl.GrbBase) { b.Proof[place] = b.Proof[place][:len(b.Proof[place])-1] },
		"a proof one longer":    func(b *impl.GrbBase) { b.Proof[place] = append(b.Proof[place], nil) },
		"an empty proof":        func(b *impl.GrbBase) { b.Proof[place] = nil },
		"5 more in a proof":     func(b *impl.GrbBase) { b.Proof[place][given] = plainSum(b.Proof[place][given], 1, five) },
		"one twice as much":     func(b *impl.GrbBase) { b.List[place] = impl.PolScale(2, b.List[place]) },
		"a proof twice as much": func(b *impl.GrbBase) { b.Proof[place] = twice(b.Proof[place]) },
		"one with e13 more": func(b *impl.GrbBase) {
			b.List[place] = plainSum(b.List[place], 1, []impl.PolTerm{{C: 1, M: impl.MonMon{E: 13}}})
		},
		"one without a term": func(b *impl.GrbBase) { b.List[place] = b.List[place][1:] },
		"0 in the list":      func(b *impl.GrbBase) { b.List[place] = nil },
		"0 in the list, proved": func(b *impl.GrbBase) {
			b.List[place], b.Proof[place] = nil, make([][]impl.PolTerm, len(b.Proof[place]))
		},
		"a proof that is not ok":  func(b *impl.GrbBase) { b.Proof[place][given] = badOne(d) },
		"an operator that is not": func(b *impl.GrbBase) { b.List[place] = badOne(d) },
	}
}

func twice(list [][]impl.PolTerm) [][]impl.PolTerm {
	var scaled [][]impl.PolTerm
	for _, p := range list {
		scaled = append(scaled, impl.PolScale(2, p))
	}
	return scaled
}

// badOne rolls terms that are no operator.
func badOne(d *dice) []impl.PolTerm {
	bads := allBadPols()
	return bads[d.roll(len(bads))]
}

func TestGrbProvesNoOther(t *testing.T) {
	d := dice(440)
	manyGiven(44, 60, func(order int, given [][]impl.PolTerm) {
		base := impl.GrbMake(order, given, 1+d.roll(impl.GrbMaxFuel))
		if !plainProves(base, given) {
			return
		}
		wantProves(t, base, given, true)
		for name, change := range changes(&d, d.roll(len(base.List)), d.roll(len(given))) {
			other := cloneBase(base)
			change(&other)
			for _, other.Done = range []bool{true, false} {
				if impl.GrbProves(other, given) {
					t.Fatalf("GrbProves of %s with %s is true", baseText(base), name)
				}
			}
		}
	})
}

// P44
func TestGrbProvesIsWhatItsSumsSay(t *testing.T) {
	yes, no := 0, 0
	manyGiven(444, 600, func(order int, given [][]impl.PolTerm) {
		base := impl.GrbMake(order, given, impl.GrbMaxFuel)
		for _, by := range [][][]impl.PolTerm{given, given[1:], append(slices.Clone(given), base.List[len(base.List)-1]), twice(given), base.List} {
			want := impl.LstOk(base.List) && impl.LstOk(by)
			for place, proof := range base.Proof {
				sum, ok := impl.RedSum(proof, by)
				want = want && ok && impl.PolSame(sum, base.List[place])
			}
			wantProves(t, base, by, want)
			if want {
				yes++
			} else {
				no++
			}
		}
	})
	if yes < 300 || no < 300 {
		t.Fatalf("%d were true, %d false", yes, no)
	}
}

func TestGrbProvesByHand(t *testing.T) {
	proofs := func(rows ...[]string) [][][]impl.PolTerm {
		var proofs [][][]impl.PolTerm
		for _, row := range rows {
			proofs = append(proofs, ops(t, row...))
		}
		return proofs
	}
	for _, c := range []struct {
		list  []string
		proof [][][]impl.PolTerm
		given []string
		want  bool
	}{
		{nil, nil, nil, true}, {nil, nil, []string{"d", "x"}, true}, {nil, proofs(nil), nil, false}, {nil, proofs([]string{"1"}), []string{"d"}, false},
		{[]string{"d"}, nil, []string{"d"}, false}, {[]string{"d"}, proofs([]string{"1"}), []string{"d"}, true}, {[]string{"d"}, proofs([]string{"1"}), []string{"x"}, false}, {[]string{"d"}, proofs(nil), nil, false},
		{[]string{"d", "x", "100"}, proofs([]string{"1", "0"}, []string{"0", "1"}, []string{"x", "100d"}), []string{"d", "x"}, true},
		// A proof multiplies from the left; those that were given stand in their order.
		{[]string{"xd"}, proofs([]string{"x"}), []string{"d"}, true}, {[]string{"xd"}, proofs([]string{"d"}), []string{"x"}, false}, {[]string{"xd+1"}, proofs([]string{"d"}), []string{"x"}, true},
		{[]string{"100"}, proofs([]string{"x", "100d"}), []string{"x", "d"}, false}, {[]string{"100"}, proofs([]string{"100d", "x"}), []string{"x", "d"}, true},
		// It need not begin with those that were given, nor be done, nor be a basis.
		{[]string{"1"}, proofs([]string{"100x", "d"}), []string{"d", "x"}, true}, {[]string{"xd", "d2", "5d"}, proofs([]string{"x"}, []string{"d"}, []string{"5"}), []string{"d"}, true},
		// The first one, one amid them, or the last one is not what its proof says.
		{[]string{"x", "d2", "5d"}, proofs([]string{"x"}, []string{"d"}, []string{"5"}), []string{"d"}, false}, {[]string{"xd", "d", "5d"}, proofs([]string{"x"}, []string{"d"}, []string{"5"}), []string{"d"}, false}, {[]string{"xd", "d2", "4d"}, proofs([]string{"x"}, []string{"d"}, []string{"5"}), []string{"d"}, false},
		// Other proofs of the same are as good.
		{[]string{"d"}, proofs([]string{"0", "1"}), []string{"d", "d"}, true}, {[]string{"d"}, proofs([]string{"51", "51"}), []string{"d", "d"}, true}, {[]string{"d"}, proofs([]string{"1", "1"}), []string{"d", "d"}, false},
		{[]string{"d"}, proofs([]string{"x+1", "100d"}), []string{"d", "x"}, false}, {[]string{"d"}, proofs([]string{"xd+2", "100d2"}), []string{"d", "x"}, false}, {[]string{"d"}, proofs([]string{"xd+3", "100d2"}), []string{"d", "x"}, true},
		// A sum with a product past MonMax is none.
		{[]string{"x15"}, proofs([]string{"x14"}), []string{"x"}, true}, {[]string{"d"}, proofs([]string{"x15", "100x15", "1"}), []string{"x", "x", "d"}, false},
	} {
		wantProves(t, impl.GrbBase{List: ops(t, c.list...), Proof: c.proof}, ops(t, c.given...), c.want)
	}
}

// More than PolMax terms on the way are too much, though the sum is the operator.
func TestGrbProvesAtPolMax(t *testing.T) {
	half, rest, more := manyTerms(200), behind(200, 200), behind(200, 201)
	one, minus := op(t, "1"), op(t, "100")
	base := impl.GrbBase{List: [][]impl.PolTerm{half}, Proof: [][][]impl.PolTerm{{one, one, minus}}}
	wantProves(t, base, [][]impl.PolTerm{half, rest, rest}, true)
	wantProves(t, base, [][]impl.PolTerm{half, more, more}, false)
	wantProves(t, base, [][]impl.PolTerm{more, half, more}, false)
	base.Proof = [][][]impl.PolTerm{{one, minus, one}}
	wantProves(t, base, [][]impl.PolTerm{more, more, half}, true)
	full := manyTerms(impl.PolMax)
	wantProves(t, impl.GrbBase{List: [][]impl.PolTerm{full}, Proof: [][][]impl.PolTerm{{one}}}, [][]impl.PolTerm{full}, true)
}

func TestGrbProvesAtLstMax(t *testing.T) {
	one := op(t, "1")
	for n := range 2 * impl.LstMax {
		var proof [][][]impl.PolTerm
		for range n {
			proof = append(proof, [][]impl.PolTerm{one})
		}
		wantProves(t, impl.GrbBase{List: times(n, op(t, "d")), Proof: proof}, ops(t, "d"), n <= impl.LstMax)
		if n > 0 {
			// As many may be given here as a list may have, more than GrbMake takes.
			row := append(make([][]impl.PolTerm, n-1), one)
			wantProves(t, impl.GrbBase{List: ops(t, "d"), Proof: [][][]impl.PolTerm{row}}, times(n, op(t, "d")), n <= impl.LstMax)
		}
		// Both lists are asked, also where there is nothing to prove.
		wantProves(t, impl.GrbBase{}, times(n, op(t, "d")), n <= impl.LstMax)
	}
}

func TestGrbStairs(t *testing.T) {
	tries(t, 48, 1200, func(d *dice, most int) bool {
		order, list := allOrders[d.roll(3)], d.list(impl.LstMax, 5, most)
		var want []impl.MonMon
		for _, p := range list {
			want = append(want, plainLead(order, numbersOf(p)))
		}
		if got := impl.GrbStairs(order, list); !slices.Equal(got, want) {
			t.Fatalf("GrbStairs(%d) of %s is %v", order, listText(list), got)
		}
		return true
	})
	for _, order := range allOrders {
		if got := impl.GrbStairs(order, nil); len(got) != 0 {
			t.Fatalf("GrbStairs of no list is %v", got)
		}
		if got := impl.GrbStairs(order, [][]impl.PolTerm{}); len(got) != 0 {
			t.Fatalf("GrbStairs of the empty list is %v", got)
		}
		if got := impl.GrbStairs(order, ops(t, "1", "100", "x", "1")); !slices.Equal(got, []impl.MonMon{{}, {}, {X: 1}, {}}) {
			t.Fatalf("GrbStairs with numbers is %v", got)
		}
	}
	for order, want := range map[int][]impl.MonMon{impl.OrdDeg: {{X: 2}, {E: 1}, {Y: 3}}, impl.OrdLex: {{D: 1}, {E: 1}, {X: 1}}, impl.OrdOut: {{X: 2}, {X: 1}, {X: 1}}} {
		if got := impl.GrbStairs(order, ops(t, "x2+d", "e+x", "y3+x")); !slices.Equal(got, want) {
			t.Fatalf("GrbStairs(%d) is %v", order, got)
		}
	}
}

// P41
func TestRedFreeOfStairs(t *testing.T) {
	free := 0
	tries(t, 410, 1200, func(d *dice, most int) bool {
		order, p, list := allOrders[d.roll(3)], d.pol(3, most), d.list(3, 3, most)
		want := true
		for _, stair := range impl.GrbStairs(order, list) {
			for _, term := range p {
				want = want && !impl.MonDivides(stair, term.M)
			}
		}
		if impl.RedFree(order, p, list) != want {
			t.Fatalf("RedFree(%d) of %s by %s is not %v", order, plainText(p), listText(list), want)
		}
		if want && len(p) > 0 && len(list) > 0 {
			free++
		}
		return true
	})
	if free < 100 || free > 900 {
		t.Fatalf("%d of 1200 were free", free)
	}
}
