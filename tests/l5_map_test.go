package tests

import (
	"slices"
	"strconv"
	"testing"

	"loop.example/selvedge/impl"
)

// image is what a letter is turned into: how often each letter stands there, and '1' the number 1.
type image map[byte]int

// turn is one of the turns: what it makes of each letter that it changes, whether it puts products the other way round, and the program's own.
type turn struct {
	name   string
	images map[byte]image
	back   bool
	call   func(p []impl.PolTerm) ([]impl.PolTerm, bool)
}

func round() turn {
	return turn{name: "MapRound", images: map[byte]image{'x': {'d': 1}, 'y': {'e': 1}, 'd': {'x': -1}, 'e': {'y': -1}}, call: impl.MapRound}
}

func back() turn {
	return turn{name: "MapBack", images: map[byte]image{'d': {'d': -1}, 'e': {'e': -1}}, back: true, call: impl.MapBack}
}

func swap() turn {
	return turn{name: "MapSwap", images: map[byte]image{'x': {'y': 1}, 'y': {'x': 1}, 'd': {'e': 1}, 'e': {'d': 1}}, call: always(impl.MapSwap)}
}

func over() turn {
	return turn{name: "MapTurn", images: map[byte]image{'x': {'x': -1}, 'y': {'y': -1}, 'd': {'d': -1}, 'e': {'e': -1}}, call: always(impl.MapTurn)}
}

func shift(a int, b int) turn {
	return turn{
		name:   "MapShift by " + strconv.Itoa(a) + " and " + strconv.Itoa(b),
		images: map[byte]image{'x': {'x': 1, '1': a}, 'y': {'y': 1, '1': b}},
		call:   func(p []impl.PolTerm) ([]impl.PolTerm, bool) { return impl.MapShift(p, a, b) },
	}
}

func lean(c int) turn {
	return turn{
		name:   "MapLean by " + strconv.Itoa(c),
		images: map[byte]image{'d': {'d': 1, 'x': c}},
		call:   func(p []impl.PolTerm) ([]impl.PolTerm, bool) { return impl.MapLean(p, c) },
	}
}

// always is true where an operator is ok.
func always(call func(p []impl.PolTerm) []impl.PolTerm) func(p []impl.PolTerm) ([]impl.PolTerm, bool) {
	return func(p []impl.PolTerm) ([]impl.PolTerm, bool) { return call(p), impl.PolOk(p) }
}

// someTurns are all six, those with numbers by some.
func someTurns() []turn {
	return []turn{
		round(), back(), swap(), over(),
		shift(0, 0), shift(3, 0), shift(0, 5), shift(1, 1), shift(100, 2), shift(7, 100), shift(50, 51),
		lean(0), lean(1), lean(2), lean(50), lean(100),
	}
}

// plainTurned is what a turn makes of a term, letter by letter, without bounds.
func plainTurned(how turn, term impl.PolTerm) map[impl.MonMon]int {
	letters := []byte(lettersOf(term.M))
	if !how.back {
		slices.Reverse(letters)
	}
	product := map[impl.MonMon]int{{}: term.C}
	for _, letter := range letters {
		into, changed := how.images[letter]
		if !changed {
			into = image{letter: 1}
		}
		sum := map[impl.MonMon]int{}
		for l, often := range into {
			for m, c := range plainLeft(l, product) {
				sum[m] = ((sum[m]+often*c)%impl.FldP + impl.FldP) % impl.FldP
			}
		}
		product = sum
	}
	return product
}

// plainTurns goes through the terms of an operator, in order, without the program.
func plainTurns(how turn, p []impl.PolTerm) ways {
	w := ways{sum: map[impl.MonMon]int{}}
	for _, term := range p {
		w.last = len(w.sum)
		for m, c := range plainTurned(how, term) {
			w.tooMuch = w.tooMuch || c != 0 && max(m.X, m.Y, m.D, m.E) > impl.MonMax
			w.sum[m] = (w.sum[m] + c) % impl.FldP
			if w.sum[m] == 0 {
				delete(w.sum, m)
			}
		}
		w.most = max(w.most, len(w.sum))
	}
	return w
}

// wantTurn asks a turn for what it is without the program, and says whether that is true.
func wantTurn(t *testing.T, how turn, p []impl.PolTerm) bool {
	t.Helper()
	want := plainTurns(how, p)
	got, ok := how.call(p)
	if ok != want.ok() {
		t.Fatalf("%s of %v is %v; it comes to %d terms, and has %d on the way", how.name, p, ok, len(want.sum), want.most)
	}
	if ok {
		wantPol(t, got, fromNumbers(want.sum), how.name+" of "+plainText(p))
	} else {
		wantNothing(t, got, ok, how.name)
	}
	return ok
}

func TestMapIsWhatItsLettersSay(t *testing.T) {
	for place, how := range someTurns() {
		tries(t, dice(500+place), 900, func(d *dice, most int) bool {
			return wantTurn(t, how, d.pol(4, most))
		})
		for _, m := range gridMons(0, 1, 2) {
			wantTurn(t, how, impl.PolOf(5, m))
		}
		wantTurn(t, how, nil)
		wantTurn(t, how, []impl.PolTerm{})
	}
}

func TestMapByHand(t *testing.T) {
	for _, c := range []struct {
		how     turn
		p, want string
	}{
		{round(), "x", "d"}, {round(), "y", "e"}, {round(), "d", "100x"}, {round(), "e", "100y"}, {round(), "d2", "x2"}, {round(), "e2", "y2"}, {round(), "de", "xy"},
		{round(), "d3", "100x3"}, {round(), "d2e", "100x2y"}, {round(), "de2", "100xy2"}, {round(), "e3", "100y3"}, {round(), "d15e15", "x15y15"}, {round(), "d15e14", "100x15y14"},
		{round(), "xd", "100xd+100"}, {round(), "ye", "100ye+100"}, {round(), "xe", "100yd"}, {round(), "yd", "100xe"}, {round(), "x2d", "100xd2+99d"}, {round(), "xd2", "x2d+2x"},
		{round(), "xyde", "xyde+xd+ye+1"}, {round(), "5xd+7", "96xd+2"}, {round(), "xd+ye", "100xd+100ye+99"}, {round(), "xd+1", "100xd"}, {round(), "d+x", "d+100x"}, {round(), "0", "0"}, {round(), "1", "1"}, {round(), "x15y15", "d15e15"},
		{back(), "x", "x"}, {back(), "y", "y"}, {back(), "d", "100d"}, {back(), "e", "100e"}, {back(), "d2", "d2"}, {back(), "e2", "e2"}, {back(), "de", "de"},
		{back(), "d3", "100d3"}, {back(), "d2e", "100d2e"}, {back(), "de2", "100de2"}, {back(), "e3", "100e3"}, {back(), "d15e15", "d15e15"}, {back(), "d15e14", "100d15e14"},
		{back(), "xd", "100xd+100"}, {back(), "ye", "100ye+100"}, {back(), "xe", "100xe"}, {back(), "yd", "100yd"}, {back(), "x2d", "100x2d+99x"}, {back(), "xd2", "xd2+2d"},
		{back(), "xyde", "xyde+xd+ye+1"}, {back(), "xd+1", "100xd"}, {back(), "51xd+100d+1", "50xd+d+51"}, {back(), "0", "0"}, {back(), "1", "1"}, {back(), "x15y15", "x15y15"},
		{swap(), "x", "y"}, {swap(), "y", "x"}, {swap(), "d", "e"}, {swap(), "e", "d"}, {swap(), "x2d", "y2e"}, {swap(), "d+2e+3x+4y", "2d+e+4x+3y"}, {swap(), "x2+2xy+3y2", "3x2+2xy+y2"}, {swap(), "x3y4d5e6", "x4y3d6e5"}, {swap(), "x15", "y15"}, {swap(), "0", "0"}, {swap(), "7", "7"},
		{over(), "x", "100x"}, {over(), "y", "100y"}, {over(), "d", "100d"}, {over(), "e", "100e"}, {over(), "x2d+xd", "100x2d+xd"}, {over(), "xyde+xyd+xy+x+1", "xyde+100xyd+xy+100x+1"}, {over(), "x15y15d15e15", "x15y15d15e15"}, {over(), "x15y15d15e14", "100x15y15d15e14"}, {over(), "3x15", "98x15"}, {over(), "0", "0"}, {over(), "7", "7"},
		{shift(3, 0), "x2d", "x2d+6xd+9d"}, {shift(0, 3), "y2e", "y2e+6ye+9e"}, {shift(3, 0), "y2e", "y2e"}, {shift(0, 3), "x2d", "x2d"}, {shift(2, 5), "xy", "xy+5x+2y+10"}, {shift(5, 2), "xy", "xy+2x+5y+10"}, {shift(3, 4), "d15e15", "d15e15"},
		{shift(1, 0), "x+100", "x"}, {shift(2, 3), "x+y+96", "x+y"}, {shift(100, 0), "x2+2x+1", "x2"}, {shift(100, 100), "x+2", "x+1"}, {shift(1, 1), "100x+1", "100x"}, {shift(4, 4), "0", "0"}, {shift(4, 4), "9", "9"},
		{lean(2), "d2", "d2+4xd+4x2+2"}, {lean(2), "d", "d+2x"}, {lean(3), "xd", "xd+3x2"}, {lean(3), "e", "e"}, {lean(3), "x15y15e15", "x15y15e15"}, {lean(3), "ye", "ye"}, {lean(1), "de", "de+xe"}, {lean(1), "yde2", "yde2+xye2"},
		{lean(1), "d2e", "d2e+2xde+x2e+e"}, {lean(100), "d+x", "d"}, {lean(1), "d+100x", "d"}, {lean(100), "d2", "d2+99xd+x2+100"}, {lean(0), "d15", "d15"}, {lean(0), "x15d15", "x15d15"}, {lean(5), "0", "0"}, {lean(5), "9", "9"},
	} {
		wantPol(t, must(t)(c.how.call(op(t, c.p))), op(t, c.want), c.how.name+" of "+c.p)
	}
}

// Each of the four, at MonMax and one less, alone and beside all others: no product of MapRound, MapBack and MapShift ever comes past MonMax.
func TestMapAtMonMax(t *testing.T) {
	for _, how := range []turn{round(), back(), swap(), over(), shift(0, 0), shift(100, 3), shift(0, 7), shift(7, 0)} {
		for _, m := range gridMons(0, 14, 15) {
			if !wantTurn(t, how, impl.PolOf(100, m)) {
				t.Fatalf("%s of %v is false", how.name, m)
			}
		}
	}
}

// `d+cx` on the right brings as many `x` as there are `d`.
func TestMapLeanAtMonMax(t *testing.T) {
	for x := range 16 {
		for d := range 16 {
			for _, c := range []int{0, 1, 2, 100} {
				for _, m := range []impl.MonMon{{X: x, D: d}, {X: x, Y: 15, D: d, E: 15}} {
					got, ok := impl.MapLean(impl.PolOf(3, m), c)
					if ok != (c == 0 || d == 0 || x+d <= impl.MonMax) {
						t.Fatalf("MapLean of %v by %d is %v", m, c, ok)
					}
					if !ok {
						wantNothing(t, got, ok, "MapLean")
					}
					wantTurn(t, lean(c), impl.PolOf(3, m))
				}
			}
		}
	}
	// What is too much takes itself away again, or stands behind or ahead of others.
	for _, text := range []string{"x15d+100x15", "xd15+1", "x15d+15x14", "x14d3+x15d2", "x15d+e15", "de15+x15d"} {
		p, ok := impl.MapLean(op(t, text), 1)
		wantNothing(t, p, ok, "MapLean of "+text)
		wantPol(t, must(t)(impl.MapLean(op(t, text), 0)), op(t, text), "MapLean by 0 of "+text)
	}
}

// P11
func TestMapRound(t *testing.T) {
	tries(t, 11, 500, func(d *dice, most int) bool {
		var all all
		a, b := d.pol(5, most), d.pol(5, most)
		whole := all.of(impl.MapRound(all.of(impl.WylMul(a, b))))
		both := all.of(impl.WylMul(all.of(impl.MapRound(a)), all.of(impl.MapRound(b))))
		if !all.no {
			wantPol(t, whole, both, "MapRound of WylMul")
		}
		return !all.no
	})
	held := 0
	for _, p := range somePols() {
		var all all
		twice := all.of(impl.MapRound(all.of(impl.MapRound(p))))
		if !all.no {
			held++
			wantPol(t, twice, impl.MapTurn(p), "MapRound of MapRound")
			wantPol(t, must(t)(impl.MapRound(must(t)(impl.MapRound(twice)))), p, "MapRound four times")
		}
	}
	if held < 60 {
		t.Fatalf("only %d were true", held)
	}
}

// P12
func TestMapBack(t *testing.T) {
	tries(t, 12, 500, func(d *dice, most int) bool {
		var all all
		a, b := d.pol(5, most), d.pol(5, most)
		whole := all.of(impl.MapBack(all.of(impl.WylMul(a, b))))
		both := all.of(impl.WylMul(all.of(impl.MapBack(b)), all.of(impl.MapBack(a))))
		if !all.no {
			wantPol(t, whole, both, "MapBack of WylMul")
		}
		return !all.no
	})
	held := 0
	for _, p := range somePols() {
		var all all
		twice := all.of(impl.MapBack(all.of(impl.MapBack(p))))
		if !all.no {
			held++
			wantPol(t, twice, p, "MapBack of MapBack")
		}
	}
	if held < 60 {
		t.Fatalf("only %d were true", held)
	}
}

// P26
func TestMapSwap(t *testing.T) {
	tries(t, 26, 500, func(d *dice, most int) bool {
		var all all
		a, b, f := d.pol(5, most), d.pol(5, most), d.form(6, most)
		whole := impl.MapSwap(all.of(impl.WylMul(a, b)))
		both := all.of(impl.WylMul(impl.MapSwap(a), impl.MapSwap(b)))
		done := impl.MapSwap(all.of(impl.WylDo(a, f)))
		bothDone := all.of(impl.WylDo(impl.MapSwap(a), impl.MapSwap(f)))
		if !all.no {
			wantPol(t, whole, both, "MapSwap of WylMul")
			wantPol(t, bothDone, done, "WylDo of both swapped")
		}
		return !all.no
	})
	for _, p := range somePols() {
		wantPol(t, impl.MapSwap(impl.MapSwap(p)), p, "MapSwap of MapSwap")
		for _, term := range impl.MapSwap(p) {
			wantInt(t, term.C, impl.PolAt(p, impl.MonMon{X: term.M.Y, Y: term.M.X, D: term.M.E, E: term.M.D}), "a number of MapSwap")
		}
		if len(impl.MapSwap(p)) != len(p) {
			t.Fatalf("MapSwap of %d terms has %d", len(p), len(impl.MapSwap(p)))
		}
	}
}

// P27
func TestMapTurn(t *testing.T) {
	tries(t, 27, 500, func(d *dice, most int) bool {
		var all all
		a, b := d.pol(5, most), d.pol(5, most)
		whole := impl.MapTurn(all.of(impl.WylMul(a, b)))
		both := all.of(impl.WylMul(impl.MapTurn(a), impl.MapTurn(b)))
		if !all.no {
			wantPol(t, whole, both, "MapTurn of WylMul")
		}
		return !all.no
	})
	for _, p := range somePols() {
		even := fromNumbers(map[impl.MonMon]int{})
		for _, term := range p {
			if impl.MonDeg(term.M)%2 == 0 {
				even = append(even, term)
			}
		}
		turned := impl.MapTurn(p)
		wantPol(t, impl.MapTurn(turned), p, "MapTurn of MapTurn")
		wantPol(t, impl.MapTurn(even), even, "MapTurn of even ones")
		if impl.PolSame(turned, p) != (len(even) == len(p)) {
			t.Fatalf("MapTurn of %v is %v", p, turned)
		}
	}
	for _, m := range someMons() {
		want := 1
		if (m.X+m.Y+m.D+m.E)%2 == 1 {
			want = impl.FldP - 1
		}
		wantPol(t, impl.MapTurn(impl.PolOf(1, m)), impl.PolOf(want, m), "MapTurn of "+plainMonText(m))
	}
}

// P28
func TestMapShift(t *testing.T) {
	tries(t, 28, 500, func(d *dice, most int) bool {
		var all all
		p, q := d.pol(4, most), d.pol(4, most)
		a, b, a2, b2 := d.roll(impl.FldP), d.roll(impl.FldP), d.roll(impl.FldP), d.roll(impl.FldP)
		shifted := all.of(impl.MapShift(p, a, b))
		whole := all.of(impl.MapShift(all.of(impl.WylMul(p, q)), a, b))
		both := all.of(impl.WylMul(shifted, all.of(impl.MapShift(q, a, b))))
		twice := all.of(impl.MapShift(shifted, a2, b2))
		once := all.of(impl.MapShift(p, impl.FldAdd(a, a2), impl.FldAdd(b, b2)))
		if !all.no {
			wantPol(t, whole, both, "MapShift of WylMul")
			wantPol(t, twice, once, "MapShift of MapShift")
		}
		return !all.no
	})
	for _, p := range somePols() {
		wantPol(t, must(t)(impl.MapShift(p, 0, 0)), p, "MapShift by 0")
	}
}

// P29
func TestMapShiftDoes(t *testing.T) {
	tries(t, 29, 500, func(d *dice, most int) bool {
		var all all
		p, f, a, b := d.pol(4, most), d.form(6, most), d.roll(impl.FldP), d.roll(impl.FldP)
		shifted := all.of(impl.MapShift(f, a, b))
		both := all.of(impl.WylDo(all.of(impl.MapShift(p, a, b)), shifted))
		done := all.of(impl.MapShift(all.of(impl.WylDo(p, f)), a, b))
		if !all.no {
			wantPol(t, both, done, "WylDo of both shifted")
		}
		return !all.no
	})
	for _, f := range someForms() {
		for _, a := range someNumbers {
			for _, b := range []int{0, 1, 51, 100} {
				shifted := must(t)(impl.MapShift(f, a, b))
				for _, xy := range [][2]int{{0, 0}, {2, 3}, {100, 1}, {50, 99}} {
					further := plainAt(f, xy[0]+a, xy[1]+b)
					wantInt(t, impl.ActAt(shifted, xy[0], xy[1]), further, "ActAt of a shifted form", a, b)
					wantInt(t, impl.ActAt(f, impl.FldAdd(xy[0], a), impl.FldAdd(xy[1], b)), further, "ActAt further", a, b)
				}
			}
		}
	}
}

// P30
func TestMapLean(t *testing.T) {
	tries(t, 30, 500, func(d *dice, most int) bool {
		var all all
		p, q, c, c2 := d.pol(4, most), d.pol(4, most), d.roll(impl.FldP), d.roll(impl.FldP)
		leant := all.of(impl.MapLean(p, c))
		whole := all.of(impl.MapLean(all.of(impl.WylMul(p, q)), c))
		both := all.of(impl.WylMul(leant, all.of(impl.MapLean(q, c))))
		twice := all.of(impl.MapLean(leant, c2))
		once := all.of(impl.MapLean(p, impl.FldAdd(c, c2)))
		if !all.no {
			wantPol(t, whole, both, "MapLean of WylMul")
			wantPol(t, twice, once, "MapLean of MapLean")
		}
		return !all.no
	})
	for _, p := range somePols() {
		wantPol(t, must(t)(impl.MapLean(p, 0)), p, "MapLean by 0")
	}
}

// P31
func TestMapInEitherOrder(t *testing.T) {
	pairs := [][2]turn{{swap(), round()}, {over(), back()}, {over(), round()}}
	for place, pair := range pairs {
		tries(t, dice(31+place), 900, func(d *dice, most int) bool {
			var all all
			p := d.pol(8, most)
			one := all.of(pair[0].call(all.of(pair[1].call(p))))
			other := all.of(pair[1].call(all.of(pair[0].call(p))))
			if !all.no {
				wantPol(t, one, other, pair[0].name+" and "+pair[1].name)
			}
			return !all.no
		})
	}
}

// crowd is what a turn makes many terms of: great monomials, small ones (of each it makes one term that nothing else makes), and a last one, which takes away some of what the great ones made, and brings nothing new.
type crowd struct {
	how   turn
	great []impl.MonMon
	made  int
	small func(i int) impl.MonMon
	last  impl.MonMon
	gone  impl.MonMon
}

func crowds() []crowd {
	deep := []impl.MonMon{{X: 13, Y: 13, D: 14, E: 13}, {X: 14, Y: 13, D: 13, E: 13}}
	slopes := func(i int) impl.MonMon { return impl.MonMon{D: 15, E: i} }
	apart := func(i int) impl.MonMon { return impl.MonMon{X: i, E: 15} }
	times := func(i int) impl.MonMon { return impl.MonMon{X: i % 16, Y: 15, E: i / 16} }
	return []crowd{
		{shift(3, 5), []impl.MonMon{{X: 13, Y: 13, D: 1}, {X: 13, Y: 13, E: 1}}, 392, slopes, impl.MonMon{D: 1}, impl.MonMon{D: 1}},
		{round(), deep, 392, apart, impl.MonMon{D: 1}, impl.MonMon{X: 1}},
		{back(), deep, 392, apart, impl.MonMon{D: 1}, impl.MonMon{D: 1}},
		{lean(2), []impl.MonMon{{D: 15, E: 5}, {Y: 1, D: 15, E: 4}, {Y: 2, D: 15, E: 3}, {Y: 3, D: 15, E: 2}, {Y: 4, D: 15, E: 1}}, 360, times, impl.MonMon{Y: 2, D: 1, E: 3}, impl.MonMon{Y: 2, D: 1, E: 3}},
	}
}

// of is the operator with so many small ones, and the last one so often.
func (c crowd) of(small int, last int) []impl.PolTerm {
	numbers := map[impl.MonMon]int{c.last: last}
	for _, m := range c.great {
		numbers[m] = 1
	}
	for i := range small {
		numbers[c.small(i)] = 7
	}
	return fromNumbers(numbers)
}

// away is how often the last one takes the monomial that goes away.
func (c crowd) away() int {
	for last := range impl.FldP {
		if plainTurns(c.how, c.of(0, last)).sum[c.gone] == 0 {
			return last
		}
	}
	return 0
}

func TestMapAtPolMax(t *testing.T) {
	for _, c := range crowds() {
		away := c.away()
		for more := -1; more <= 2; more++ {
			small := impl.PolMax - c.made + more
			for _, last := range []int{0, away} {
				p := c.of(small, last)
				w := plainTurns(c.how, p)
				if w.tooMuch || w.most != impl.PolMax+more || (len(w.sum) < w.most) != (last != 0) {
					t.Fatalf("%s comes to %d terms, %d on the way", c.how.name, len(w.sum), w.most)
				}
				if ok := wantTurn(t, c.how, p); ok != (more <= 0) {
					t.Fatalf("%s with %d terms on the way, %d at the end, is %v", c.how.name, w.most, len(w.sum), ok)
				}
			}
		}
		if away == 0 || len(plainTurns(c.how, c.of(impl.PolMax-c.made+1, away)).sum) > impl.PolMax {
			t.Fatalf("%s never comes back to PolMax", c.how.name)
		}
	}
	// As many terms as may be, of each of which one is made.
	full := manyTerms(impl.PolMax)
	for _, how := range []turn{swap(), over(), shift(0, 0), lean(0)} {
		if !wantTurn(t, how, full) {
			t.Fatalf("%s of PolMax terms is false", how.name)
		}
	}
}

// What was turned is turned the other way: of many terms few are left.
func TestMapTermsTakeEachOtherAway(t *testing.T) {
	for _, pair := range [][2]turn{{shift(3, 5), shift(98, 96)}, {shift(100, 0), shift(1, 0)}, {shift(0, 50), shift(0, 51)}, {lean(2), lean(99)}, {lean(100), lean(1)}, {back(), back()}} {
		for _, text := range []string{"xd", "x2d2+y", "x2yde", "x3y2d2e", "y2e2+x2", "d2+x", "x2y2", "y15e15+x15", "d7e9+x7"} {
			turned := must(t)(pair[0].call(op(t, text)))
			wantTurn(t, pair[1], turned)
			wantPol(t, must(t)(pair[1].call(turned)), op(t, text), pair[1].name+" of "+pair[0].name+" of "+text)
		}
	}
}

func TestMapNoNumbers(t *testing.T) {
	for _, text := range []string{"0", "1", "x", "d", "x2d+y+3", "de"} {
		p := op(t, text)
		for _, n := range append([]int{impl.FldP, impl.FldP + 1, -1, -impl.FldP}, noNumbers...) {
			for _, other := range append([]int{impl.FldP, -1}, someNumbers...) {
				got, ok := impl.MapShift(p, n, other)
				wantNothing(t, got, ok, "MapShift of "+text+" by no number")
				got, ok = impl.MapShift(p, other, n)
				wantNothing(t, got, ok, "MapShift of "+text+" by no number")
			}
			got, ok := impl.MapLean(p, n)
			wantNothing(t, got, ok, "MapLean of "+text+" by no number")
		}
		for _, n := range someNumbers {
			for _, other := range someNumbers {
				wantTurn(t, shift(n, other), p)
			}
			wantTurn(t, lean(n), p)
		}
	}
}

func TestMapWrong(t *testing.T) {
	for name, bad := range badPols() {
		for _, how := range someTurns() {
			got, ok := how.call(bad)
			wantNothing(t, got, ok, how.name+" of one with "+name)
		}
	}
	for _, bad := range badMons() {
		for _, how := range someTurns() {
			got, ok := how.call([]impl.PolTerm{{C: 1, M: bad}})
			wantNothing(t, got, ok, how.name+" of a monomial that is not ok")
		}
	}
}

func TestMapNewMemory(t *testing.T) {
	d := dice(55)
	pols := [][]impl.PolTerm{nil, {}, op(t, "1"), op(t, "x"), manyTerms(impl.PolMax), manyTerms(impl.PolMax + 1)}
	for range 40 {
		pols = append(pols, d.pol(6, 2), d.pol(12, 3), d.form(8, 5))
	}
	for _, p := range pols {
		for _, how := range someTurns() {
			wantNewMemory(t, p, nil, how.name, func(a, b []impl.PolTerm) []impl.PolTerm {
				turned, _ := how.call(a)
				return turned
			})
		}
	}
}
