package tests

import (
	"slices"
	"testing"

	"loop.example/selvedge/impl"
)

// making is how a basis was made, worked out without the program, and why it ended.
type making struct {
	list   [][]impl.PolTerm
	proof  [][][]impl.PolTerm
	looked [][2]int // the pairs, in order
	from   [][2]int // of which pair each came that was added
	last   proving  // the last proof
	why    string
}

// proving is what a proof came to on its way.
type proving struct {
	product int   // the most terms of a product
	sum     int   // the most terms of a sum
	past    []int // the products past MonMax: with the first factor (0), the second one (1), or what was taken of each
	tooMuch bool
}

// Why a basis ends.
const (
	itIsDone     = "it is done"
	noFuel       = "no pair more is allowed"
	tooLong      = "there are LstMax already"
	pairTooMuch  = "a pair is too much"
	divTooMuch   = "a division is too much"
	proofTooMuch = "a proof is too much"
)

// plainMake makes a basis of what is ok, as the document says it: for each k, for each i.
func plainMake(order int, given [][]impl.PolTerm, fuel int) making {
	m := making{list: slices.Clone(given), why: itIsDone}
	for place := range given {
		proof := make([][]impl.PolTerm, len(given))
		proof[place] = []impl.PolTerm{{C: 1}}
		m.proof = append(m.proof, proof)
	}
	for k := 1; k < len(m.list); k++ {
		for i := range k {
			if fuel == 0 {
				m.why = noFuel
				return m
			}
			fuel--
			m.looked = append(m.looked, [2]int{i, k})
			if why := m.look(order, i, k); why != itIsDone {
				m.why = why
				return m
			}
		}
	}
	return m
}

// look looks at one pair, and says why it ends there, unless it goes on.
func (m *making) look(order int, i int, k int) string {
	pair := plainCouple(order, m.list[i], m.list[k])
	if !pair.ok() {
		return pairTooMuch
	}
	div := plainDivide(order, pair.rest, m.list)
	if !div.ok() {
		return divTooMuch
	}
	if len(div.left) == 0 {
		return itIsDone
	}
	if len(m.list) == impl.LstMax {
		return tooLong
	}
	proof := m.plainProof(i, k, pair, div)
	if m.last.tooMuch {
		return proofTooMuch
	}
	m.list, m.proof, m.from = append(m.list, fromNumbers(div.left)), append(m.proof, proof), append(m.from, [2]int{i, k})
	return itIsDone
}

// plainProof is the proof of what is left of a pair: first and second factor, then what was taken of each, by their places.
func (m *making) plainProof(i int, k int, pair couple, div division) [][]impl.PolTerm {
	m.last = proving{}
	var proof [][]impl.PolTerm
	for given := range m.proof[0] {
		sum := m.last.less(nil, 0, pair.factors[:1], m.proof[i][given])
		sum = m.last.less(plainSum(nil, -1, sum), 1, pair.factors[1:], m.proof[k][given])
		for place, taken := range div.taken {
			sum = m.last.less(sum, 2+place, fromNumbers(taken), m.proof[place][given])
		}
		proof = append(proof, sum)
	}
	return proof
}

// less is a sum less a product.
func (l *proving) less(sum []impl.PolTerm, place int, factor []impl.PolTerm, own []impl.PolTerm) []impl.PolTerm {
	product := plainWays(factor, own)
	sum = plainSum(sum, -1, fromNumbers(product.sum))
	l.product, l.sum = max(l.product, product.most), max(l.sum, len(sum))
	l.tooMuch = l.tooMuch || !product.ok() || len(sum) > impl.PolMax
	if product.tooMuch {
		l.past = append(l.past, place)
	}
	return sum
}

func baseText(b impl.GrbBase) string {
	text := listText(b.List)
	for _, proof := range b.Proof {
		text += " by" + listText(proof)
	}
	if b.Done {
		text += " done"
	}
	return text
}

// wantMade asks GrbMake for what it is without the program, and tells that.
func wantMade(t *testing.T, order int, given [][]impl.PolTerm, fuel int) making {
	t.Helper()
	want := plainMake(order, given, fuel)
	wantBase(t, impl.GrbMake(order, given, fuel), impl.GrbBase{List: want.list, Proof: want.proof, Done: want.why == itIsDone}, "GrbMake of "+listText(given))
	return want
}

// wantBase asks for a basis, all of it ok.
func wantBase(t *testing.T, got impl.GrbBase, want impl.GrbBase, name string) {
	t.Helper()
	if !sameBase(got, want) {
		t.Fatalf("%s is %s, not %s", name, baseText(got), baseText(want))
	}
	if !impl.LstOk(got.List) {
		t.Fatalf("%s has a list that is not ok: %s", name, listText(got.List))
	}
	for _, p := range slices.Concat(got.Proof...) {
		if !impl.PolOk(p) {
			t.Fatalf("%s has a proof that is not ok: %v", name, p)
		}
	}
}

func sameList(a [][]impl.PolTerm, b [][]impl.PolTerm) bool {
	return slices.EqualFunc(a, b, slices.Equal)
}

func sameBase(a impl.GrbBase, b impl.GrbBase) bool {
	return sameList(a.List, b.List) && slices.EqualFunc(a.Proof, b.Proof, sameList) && a.Done == b.Done
}

// given rolls an order and as many operators as may be given, none of them 0.
func (d *dice) given(most int) (int, [][]impl.PolTerm) {
	var list [][]impl.PolTerm
	for range 1 + d.roll(impl.GrbMaxGen) {
		list = append(list, d.some(2+d.roll(2), most))
	}
	return allOrders[d.roll(3)], list
}

// manyGiven rolls so many times what may be given: mostly small ones, of which bases are done, and some that come to MonMax.
func manyGiven(seed dice, rounds int, try func(order int, given [][]impl.PolTerm)) {
	for round := range rounds {
		try(seed.given([]int{1, 1, 2, 1, 8, 1, 5, 3, 8}[round%9]))
	}
}

func TestGrbTable(t *testing.T) {
	if impl.GrbMaxGen != 3 || impl.GrbMaxFuel != 60 {
		t.Fatal("a constant is not that of the table")
	}
}

// Each way to end is met, and in each order bases are done that more than one came to.
func TestGrbMakeIsWhatItsPairsSay(t *testing.T) {
	whys := map[string]int{}
	added := map[int]int{}
	manyGiven(9, 900, func(order int, given [][]impl.PolTerm) {
		made := wantMade(t, order, given, impl.GrbMaxFuel)
		whys[made.why]++
		if made.why == itIsDone && len(made.from) > 1 {
			added[order]++
		}
	})
	for why, least := range map[string]int{itIsDone: 300, noFuel: 5, tooLong: 100, pairTooMuch: 5, divTooMuch: 5, proofTooMuch: 1} {
		if whys[why] < least {
			t.Fatalf("only %d ended because %s", whys[why], why)
		}
	}
	for _, order := range allOrders {
		if added[order] < 30 {
			t.Fatalf("only %d bases were done in order %d", added[order], order)
		}
	}
}

// P6
func TestGrbMakeThatIsDone(t *testing.T) {
	pairs := 0
	manyGiven(6, 600, func(order int, given [][]impl.PolTerm) {
		base := impl.GrbMake(order, given, impl.GrbMaxFuel)
		if len(base.List) < len(given) || !sameList(base.List[:len(given)], given) {
			t.Fatalf("GrbMake of %s begins with others: %s", listText(given), listText(base.List))
		}
		if !base.Done {
			return
		}
		for k, b := range base.List {
			for i, a := range base.List {
				rest, ok := impl.SprPoly(order, a, b)
				if !ok {
					continue
				}
				_, left, ok := impl.RedAll(order, rest, base.List)
				if ok && len(left) > 0 {
					t.Fatalf("GrbMake(%d) of %s is %s; of the pair %d, %d %s is left", order, listText(given), listText(base.List), i, k, plainText(left))
				}
				if ok && i < k {
					pairs++
				}
			}
		}
	})
	if pairs < 2000 {
		t.Fatalf("only %d pairs were true", pairs)
	}
}

// P7
func TestGrbMakeProvesItself(t *testing.T) {
	sums := 0
	manyGiven(7, 600, func(order int, given [][]impl.PolTerm) {
		base := impl.GrbMake(order, given, impl.GrbMaxFuel)
		wantInt(t, len(base.Proof), len(base.List), "how many proofs there are")
		for place, proof := range base.Proof {
			wantInt(t, len(proof), len(given), "how long a proof is")
			sum, ok := impl.RedSum(proof, given)
			if ok {
				wantPol(t, sum, base.List[place], "what the proof "+listText(proof)+" says of "+listText(given))
			}
			if ok && place >= len(given) {
				sums++
			}
		}
	})
	if sums < 1000 {
		t.Fatalf("only %d sums were true", sums)
	}
}

// P45
func TestGrbMakeWithOnePairMore(t *testing.T) {
	more, same := 0, 0
	manyGiven(45, 80, func(order int, given [][]impl.PolTerm) {
		base := impl.GrbMake(order, given, 0)
		for fuel := 1; fuel <= impl.GrbMaxFuel; fuel++ {
			next := impl.GrbMake(order, given, fuel)
			begins := next
			begins.List, begins.Proof = begins.List[:min(len(next.List), len(base.List))], begins.Proof[:min(len(next.Proof), len(base.Proof))]
			begins.Done = base.Done
			if !sameBase(begins, base) || len(next.List) > len(base.List)+1 {
				t.Fatalf("GrbMake(%d) of %s with %d pairs is %s, with one fewer %s", order, listText(given), fuel, baseText(next), baseText(base))
			}
			if base.Done {
				same++
				wantBase(t, next, base, "GrbMake with one pair more than it takes")
			} else if len(next.List) > len(base.List) {
				more++
			}
			base = next
		}
	})
	if more < 200 || same < 1000 {
		t.Fatalf("%d times one more came, %d times it was done", more, same)
	}
}

func TestGrbMakeByHand(t *testing.T) {
	for _, c := range []struct {
		order int
		given []string
		added []string
		proof [][]string
		pairs int // that it takes
	}{
		{impl.OrdDeg, []string{"d", "x"}, []string{"100"}, [][]string{{"x", "100d"}}, 3},
		{impl.OrdLex, []string{"x", "d"}, []string{"1"}, [][]string{{"d", "100x"}}, 3},
		{impl.OrdOut, []string{"2y", "3e"}, []string{"1"}, [][]string{{"51e", "67y"}}, 3},
		// Each of those that were given stands at its own place in a proof.
		{impl.OrdDeg, []string{"d", "y", "x"}, []string{"100"}, [][]string{{"x", "0", "100d"}}, 6},
		{impl.OrdDeg, []string{"y", "x", "d"}, []string{"1"}, [][]string{{"0", "d", "100x"}}, 6},
		// All commute: nothing comes, or by other terms than the greatest ones.
		{impl.OrdDeg, []string{"d", "e"}, nil, nil, 1}, {impl.OrdDeg, []string{"x", "y"}, nil, nil, 1}, {impl.OrdDeg, []string{"x", "y", "x+y"}, nil, nil, 3},
		{impl.OrdDeg, []string{"x2+y", "xy+1"}, []string{"y2+100x"}, [][]string{{"y", "100x"}}, 3},
		{impl.OrdDeg, []string{"x2+1", "xy+1"}, []string{"100x+y", "y2+1"}, [][]string{{"y", "100x"}, {"y2", "100xy+1"}}, 6},
		// What is taken of those that were given, and of one that was added, is in the proof.
		{impl.OrdDeg, []string{"d2+1", "d+x"}, []string{"x2", "99"}, [][]string{{"1", "100d+x"}, {"100d2+x2+96", "d3+100xd2+3d+100x"}}, 6},
		{impl.OrdDeg, []string{"xd+y", "d+1"}, []string{"100x+y", "100"}, [][]string{{"1", "100x"}, {"d+1", "100xd+100y+100"}}, 6},
		// One, or the same one twice: nothing is left.
		{impl.OrdDeg, []string{"2xd+y+100"}, nil, nil, 0}, {impl.OrdDeg, []string{"1"}, nil, nil, 0},
		{impl.OrdDeg, []string{"2xd+y+100", "2xd+y+100"}, nil, nil, 1}, {impl.OrdDeg, []string{"d+1", "2d+2", "3d+3"}, nil, nil, 3},
		// With a number all is taken.
		{impl.OrdDeg, []string{"1", "d", "x"}, nil, nil, 3}, {impl.OrdDeg, []string{"d", "5", "x"}, nil, nil, 3}, {impl.OrdDeg, []string{"d", "x", "7"}, nil, nil, 3},
	} {
		given := ops(t, c.given...)
		want := impl.GrbBase{List: append(slices.Clone(given), ops(t, c.added...)...), Done: true}
		for place := range given {
			proof := make([][]impl.PolTerm, len(given))
			proof[place] = op(t, "1")
			want.Proof = append(want.Proof, proof)
		}
		for _, proof := range c.proof {
			want.Proof = append(want.Proof, ops(t, proof...))
		}
		for _, fuel := range []int{c.pairs, c.pairs + 1, impl.GrbMaxFuel} {
			wantBase(t, impl.GrbMake(c.order, given, fuel), want, "GrbMake of "+listText(given))
			wantInt(t, len(wantMade(t, c.order, given, fuel).looked), c.pairs, "pairs of"+listText(given), fuel)
		}
	}
}
