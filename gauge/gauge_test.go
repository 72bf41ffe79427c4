package gauge_test

import (
	"math"
	"math/big"
	"slices"
	"strconv"
	"testing"

	"ashlar/api"
	"ashlar/gauge"
)

// The edges of the floats: the least above 0, the least normal one, the greatest one.
const (
	least    = 0x1p-1074
	normal   = 0x1p-1022
	greatest = 0x1.fffffffffffffp1023
)

var (
	inf   = math.Inf(1)
	minus = math.Copysign(0, -1)
	nan   = math.NaN()
)

// nones are several that are no number, with unlike bits: of either sign, quiet and not.
func nones() []float64 {
	var l []float64
	for _, bits := range []uint64{
		0x7ff8000000000001, 0x7ff8000000000000, 0x7ff0000000000001, 0x7fffffffffffffff,
		0xfff8000000000000, 0xfff0000000000001, 0xffffffffffffffff, 0xfff4000000000abc,
	} {
		l = append(l, math.Float64frombits(bits))
	}
	return l
}

// above are numbers above 0, rising, the edges among them.
func above() []float64 {
	return []float64{
		least, 2 * least, 3 * least, normal - least, normal, normal + least, 0x1p-1000, 1e-16,
		0.001, 0.1, 0.3, below(0.5), 0.5, 0.7, below(1), 1, beyond(1), 2, 3, 1000,
		0x1p53, 0x1p53 + 2, 1e16, 0x1p1000, below(greatest), greatest, inf,
	}
}

// ladder are numbers as the order has them, both 0 among them, each once.
func ladder() []float64 {
	l := []float64{minus, 0}
	for _, x := range above() {
		l = append([]float64{-x}, append(l, x)...)
	}
	return l
}

// every one of the ladder, and what is no number behind it.
func every() []float64 { return append(ladder(), nones()...) }

// below and beyond are the floats next to one.
func below(x float64) float64  { return math.Nextafter(x, -inf) }
func beyond(x float64) float64 { return math.Nextafter(x, inf) }

// isNone tells what is no number by its bits.
func isNone(x float64) bool { return math.Float64bits(x)&^(1<<63) > 0x7ff0000000000000 }

// same tells whether two floats are alike to the bit; all that are no number are.
func same(a, b float64) bool {
	return isNone(a) && isNone(b) || math.Float64bits(a) == math.Float64bits(b)
}

// text tells a float, and its bits.
func text(x float64) string {
	return strconv.FormatFloat(x, 'g', -1, 64) + " (" + strconv.FormatUint(math.Float64bits(x), 16) + ")"
}

func texts(l []float64) string {
	s := ""
	for _, x := range l {
		s += " " + text(x)
	}
	return s
}

// dice answers numbers of 64 bits, the same ones for the same seed.
func dice(seed uint64) func() uint64 {
	n := seed
	return func() uint64 {
		n += 0x9e3779b97f4a7c15
		x := (n ^ n>>30) * 0xbf58476d1ce4e5b9
		x = (x ^ x>>27) * 0x94d049bb133111eb
		return x ^ x>>31
	}
}

// floats answers floats of all kinds: whatever bits there are, ones near 1, ones with few
// digits, whole ones, ones of the ladder, ones near the greatest and the least.
func floats(seed uint64) func() float64 {
	roll, steps := dice(seed), ladder()
	return func() float64 {
		bits := roll()
		sign, mantissa := bits&(1<<63), bits&(1<<52-1)
		switch roll() % 8 {
		case 0, 1:
			return math.Float64frombits(sign | (1020+roll()%6)<<52 | mantissa)
		case 2:
			return float64(int64(bits)>>44) / 1000
		case 3:
			return float64(int64(bits) >> 40)
		case 4:
			return steps[bits%uint64(len(steps))]
		case 5:
			return math.Float64frombits(sign | (2030+roll()%17)<<52 | mantissa)
		case 6:
			return math.Float64frombits(sign | (roll()%60)<<52 | mantissa)
		}
		return math.Float64frombits(bits)
	}
}

// exact is a number that is not infinite, as it is.
func exact(x float64) *big.Rat { return new(big.Rat).SetFloat64(x) }

// signed is one with the sign that is asked for.
func signed(x float64, below bool) float64 {
	if below {
		return -x
	}
	return x
}

// rounded is the float nearest to an exact number, of two as near the even one. Its sign
// is told beside it, for where it comes to 0.
func rounded(r *big.Rat, below bool) float64 {
	x, _ := r.Float64()
	return signed(math.Abs(x), below)
}

// quotient divides as the document has it, by exact numbers.
func quotient(a, b float64) float64 {
	below := math.Signbit(a) != math.Signbit(b)
	switch {
	case isNone(a) || isNone(b) || a == 0 && b == 0 || math.IsInf(a, 0) && math.IsInf(b, 0):
		return nan
	case b == 0 || math.IsInf(a, 0):
		return signed(inf, below)
	case a == 0 || math.IsInf(b, 0):
		return signed(0, below)
	}
	return rounded(new(big.Rat).Quo(exact(a), exact(b)), below)
}

// product multiplies, by exact numbers.
func product(a, b float64) float64 {
	below, endless := math.Signbit(a) != math.Signbit(b), math.IsInf(a, 0) || math.IsInf(b, 0)
	switch {
	case isNone(a) || isNone(b) || endless && (a == 0 || b == 0):
		return nan
	case endless:
		return signed(inf, below)
	}
	return rounded(new(big.Rat).Mul(exact(a), exact(b)), below)
}

// sum adds, by exact numbers.
func sum(a, b float64) float64 {
	switch {
	case isNone(a) || isNone(b) || math.IsInf(a, 0) && math.IsInf(b, 0) && a != b:
		return nan
	case math.IsInf(a, 0):
		return a
	case math.IsInf(b, 0):
		return b
	}
	r := new(big.Rat).Add(exact(a), exact(b))
	return rounded(r, r.Sign() < 0 || math.Signbit(a) && math.Signbit(b))
}

func asShare(t *testing.T, done, all, want float64) {
	t.Helper()
	if x := gauge.Share(done, all); !same(x, want) {
		t.Errorf("Share(%s, %s) = %s, not %s", text(done), text(all), text(x), text(want))
	}
}

func asCompare(t *testing.T, a, b float64, want int) {
	t.Helper()
	if n := gauge.Compare(a, b); n != want {
		t.Errorf("Compare(%s, %s) = %d, not %d", text(a), text(b), n, want)
	}
}

func asLeast(t *testing.T, l []float64, want float64, is bool) {
	t.Helper()
	if x, ok := gauge.Least(l); !same(x, want) || ok != is {
		t.Errorf("Least(%s) = %s, %t, not %s, %t", texts(l), text(x), ok, text(want), is)
	}
}

func asMean(t *testing.T, l []float64, want float64) {
	t.Helper()
	if x := gauge.Mean(l); !same(x, want) {
		t.Errorf("Mean(%s) = %s, not %s", texts(l), text(x), text(want))
	}
}

func asSmooth(t *testing.T, old, now, weight, want float64, is api.Errno) {
	t.Helper()
	if x, e := gauge.Smooth(old, now, weight); !same(x, want) || e != is {
		t.Errorf("Smooth(%s, %s, %s) = %s, %d, not %s, %d", text(old), text(now), text(weight), text(x), e, text(want), is)
	}
}

func asMille(t *testing.T, x float64, want int, is api.Errno) {
	t.Helper()
	if n, e := gauge.Mille(x); n != want || e != is {
		t.Errorf("Mille(%s) = %d, %d, not %d, %d", text(x), n, e, want, is)
	}
}

func TestExamples(t *testing.T) {
	asShare(t, 1, 4, 0.25)
	asShare(t, 0, 0, nan)
	asShare(t, -1, 0, -inf)
	asCompare(t, nan, inf, 1)
	asCompare(t, minus, 0, -1)
	asLeast(t, []float64{nan, 2, 1}, 1, true)
	asLeast(t, []float64{nan}, 0, false)
	asMean(t, []float64{1, 2}, 1.5)
	asSmooth(t, 1, 3, 0.5, 2, api.OK)
	asSmooth(t, nan, 3, 0.5, 3, api.OK)
	asSmooth(t, 1, 1, 2, 0, api.ErrArg)
	asMille(t, 0.0625, 62, api.OK)
	asMille(t, -0.0005, -1, api.OK)
	asMille(t, nan, 0, api.ErrArg)
	asMille(t, inf, 0, api.ErrLimit)
}

func TestShare(t *testing.T) {
	for _, c := range []struct{ done, all, want float64 }{
		{3, 4, 0.75}, {4, 4, 1}, {6, 4, 1.5}, {7, -2, -3.5}, {-7, 2, -3.5}, {-7, -2, 3.5}, {0.5, 0.25, 2},
		{0, 5, 0}, {0, -5, minus}, {minus, 5, minus}, {minus, -5, 0},
		{1, 3, 0x1.5555555555555p-2}, {2, 3, 0x1.5555555555555p-1}, {-1, 3, -0x1.5555555555555p-2},
		{1, 10, 0x1.999999999999ap-4}, {3, 5, 0x1.3333333333333p-1}, {1, 49, 0x1.4e5e0a72f0539p-6},
	} {
		asShare(t, c.done, c.all, c.want)
	}
}

func TestShareBy0(t *testing.T) {
	for _, zero := range []float64{0, minus} {
		asShare(t, 0, zero, nan)
		asShare(t, minus, zero, nan)
	}
	for _, x := range above() {
		asShare(t, x, 0, inf)
		asShare(t, x, minus, -inf)
		asShare(t, -x, 0, -inf)
		asShare(t, -x, minus, inf)
	}
}

func TestShareByInf(t *testing.T) {
	for _, x := range []float64{0, least, normal, 1, 1e16, greatest} {
		asShare(t, x, inf, 0)
		asShare(t, x, -inf, minus)
		asShare(t, -x, inf, minus)
		asShare(t, -x, -inf, 0)
		if x != 0 {
			asShare(t, inf, x, inf)
			asShare(t, inf, -x, -inf)
			asShare(t, -inf, x, -inf)
			asShare(t, -inf, -x, inf)
		}
	}
	for _, a := range []float64{inf, -inf} {
		asShare(t, a, inf, nan)
		asShare(t, a, -inf, nan)
	}
}

func TestShareOfNoNumber(t *testing.T) {
	for _, none := range nones() {
		for _, x := range every() {
			asShare(t, none, x, nan)
			asShare(t, x, none, nan)
		}
	}
}

// Quotients of the greatest and of the least ones, each by what is told to the bit.
func TestShareAtTheEdges(t *testing.T) {
	for _, c := range []struct{ done, all, want float64 }{
		{greatest, greatest, 1}, {greatest, 1, greatest}, {greatest, 0.5, inf}, {-greatest, 0.5, -inf},
		{greatest, below(1), inf}, {below(greatest), below(1), greatest}, {greatest, beyond(1), below(below(greatest))},
		{greatest, least, inf}, {greatest, -least, -inf}, {1, least, inf}, {1, 2 * least, inf},
		{1, 0x1p-1023, 0x1p1023}, {1, 0x1p-1024, inf}, {1, greatest, 0x1p-1024}, {greatest, normal, inf},
		{least, least, 1}, {least, 1, least}, {-least, 1, -least}, {least, 0.5, 2 * least},
		{least, 2, 0}, {-least, 2, minus}, {least, -2, minus}, {-least, -2, 0},
		{least, below(2), least}, {3 * least, 2, 2 * least}, {5 * least, 2, 2 * least}, {3 * least, 4, least},
		{least, 4, 0}, {-least, 4, minus}, {least, greatest, 0}, {least, -greatest, minus},
		{normal, 2, 0x1p-1023}, {normal - least, 2, 0x1p-1023}, {normal + least, 2, 0x1p-1023}, {normal + 2*least, 2, 0x1p-1023 + least},
		{normal - least, 1, normal - least}, {normal, below(1), normal + least}, {normal, beyond(1), normal - least}, {normal - least, below(1), normal - least},
	} {
		asShare(t, c.done, c.all, c.want)
	}
}

func TestShareOfWhatever(t *testing.T) {
	for _, done := range every() {
		for _, all := range every() {
			asShare(t, done, all, quotient(done, all))
		}
	}
	next := floats(1)
	for range 20_000 {
		done, all := next(), next()
		asShare(t, done, all, quotient(done, all))
	}
}

// Each one against each other, both ways round: a list tells the order.
func TestCompareOfEach(t *testing.T) {
	l := ladder()
	if l[0] != -inf || l[len(l)-1] != inf {
		t.Fatal("the ladder does not reach from -Inf to Inf")
	}
	for i, a := range l {
		for j, b := range l {
			switch {
			case i < j:
				asCompare(t, a, b, -1)
			case i > j:
				asCompare(t, a, b, 1)
			default:
				asCompare(t, a, b, 0)
			}
		}
	}
}

func TestCompareOfBoth0(t *testing.T) {
	asCompare(t, minus, 0, -1)
	asCompare(t, 0, minus, 1)
	asCompare(t, 0, 0, 0)
	asCompare(t, minus, minus, 0)
	asCompare(t, -least, minus, -1)
	asCompare(t, minus, -least, 1)
	asCompare(t, 0, least, -1)
	asCompare(t, least, 0, 1)
}

func TestCompareOfNoNumber(t *testing.T) {
	for _, none := range nones() {
		for _, x := range ladder() {
			asCompare(t, none, x, 1)
			asCompare(t, x, none, -1)
		}
		for _, other := range nones() {
			asCompare(t, none, other, 0)
		}
	}
}

func TestCompareOfWhatever(t *testing.T) {
	next := floats(2)
	for range 100_000 {
		a, b := next(), next()
		switch {
		case isNone(a) || isNone(b) || a == 0 && b == 0:
			continue
		case a < b:
			asCompare(t, a, b, -1)
		case a > b:
			asCompare(t, a, b, 1)
		default:
			asCompare(t, a, b, 0)
		}
		if !math.IsInf(a, 0) && a != 0 {
			asCompare(t, below(a), a, -1)
			asCompare(t, beyond(a), a, 1)
		}
	}
}

func TestLeast(t *testing.T) {
	for _, c := range []struct {
		l    []float64
		want float64
		is   bool
	}{
		{nil, 0, false}, {[]float64{}, 0, false}, {make([]float64, 0, 4), 0, false},
		{[]float64{nan}, 0, false}, {nones(), 0, false},
		{[]float64{7, nan, nan}, 7, true}, {[]float64{nan, 7, nan}, 7, true}, {[]float64{nan, nan, 7}, 7, true},
		{[]float64{inf, nan}, inf, true}, {[]float64{nan, inf}, inf, true}, {append(nones(), inf), inf, true},
		{append([]float64{inf}, nones()...), inf, true}, {append(nones(), -inf), -inf, true},
		{[]float64{minus, 0}, minus, true}, {[]float64{0, minus}, minus, true}, {[]float64{minus}, minus, true},
		{[]float64{0}, 0, true}, {[]float64{nan, 0}, 0, true}, {[]float64{0, 0}, 0, true}, {[]float64{0, minus, 0, minus}, minus, true},
		{[]float64{0, -least, minus}, -least, true}, {[]float64{least, 0}, 0, true},
		{[]float64{inf}, inf, true}, {[]float64{inf, inf}, inf, true}, {[]float64{inf, greatest}, greatest, true},
		{[]float64{-greatest, -inf, inf}, -inf, true}, {[]float64{-inf, -inf}, -inf, true},
		{[]float64{3, 1, 2, 1, 1}, 1, true}, {[]float64{1, 2, 1}, 1, true}, {[]float64{-1, -2, 3, -2}, -2, true},
		{[]float64{5}, 5, true}, {[]float64{1, 2, 3}, 1, true}, {[]float64{3, 2, 1}, 1, true},
		{[]float64{1, beyond(1)}, 1, true}, {[]float64{1, below(1)}, below(1), true},
	} {
		asLeast(t, c.l, c.want, c.is)
	}
}

// Each list of up to four of these: the least is the one that stands first in the row.
func TestLeastOfEachList(t *testing.T) {
	row := []float64{-inf, -2, minus, 0, 2, inf, nan, math.Float64frombits(0xfff8000000000001)}
	for length := range 5 {
		for n := range int(math.Pow(8, float64(length))) {
			var l []float64
			first := len(row)
			for range length {
				l, first = append(l, row[n%8]), min(first, n%8)
				n /= 8
			}
			if first < 6 {
				asLeast(t, l, row[first], true)
			} else {
				asLeast(t, l, 0, false)
			}
		}
	}
}

// Wherever it stands in a long list, the least one is found.
func TestLeastAtEachPlace(t *testing.T) {
	up := ladder()
	for i := range up {
		l := append(nones(), up[i:]...)
		asLeast(t, l, up[i], true)
		slices.Reverse(l)
		asLeast(t, l, up[i], true)
	}
	for i := range 100 {
		l := slices.Repeat([]float64{1}, 100)
		l[i] = -1
		asLeast(t, l, -1, true)
		l[i] = nan
		asLeast(t, l, 1, true)
	}
}

func TestLeastReadsNoRoomBehindTheEnd(t *testing.T) {
	room := []float64{3, 2, -1, minus}
	asLeast(t, room[:2], 2, true)
	asLeast(t, room[:0], 0, false)
}

func TestMean(t *testing.T) {
	for _, c := range []struct {
		l    []float64
		want float64
	}{
		{nil, nan}, {[]float64{}, nan}, {make([]float64, 0, 4), nan},
		{[]float64{7}, 7}, {[]float64{0.1}, 0.1}, {[]float64{least}, least}, {[]float64{greatest}, greatest},
		{[]float64{inf}, inf}, {[]float64{-inf}, -inf}, {[]float64{nan}, nan},
		{[]float64{1, 2, 3, 4}, 2.5}, {[]float64{-1, -2}, -1.5}, {[]float64{1, 2, 5}, 0x1.5555555555555p1},
		{[]float64{1, 2, 2}, 0x1.aaaaaaaaaaaabp0}, {[]float64{1, 3, 3}, 0x1.2aaaaaaaaaaabp1}, {[]float64{1, 1, 1, 0, 0}, 0x1.3333333333333p-1},
		{slices.Repeat([]float64{0.1}, 10), 0x1.9999999999999p-4},
	} {
		asMean(t, c.l, c.want)
	}
}

// The numbers are added one behind the other, the first one first, each sum rounded.
func TestMeanInOrder(t *testing.T) {
	for _, c := range []struct {
		l    []float64
		want float64
	}{
		{[]float64{0.1, 0.2, 0.3}, 0x1.999999999999bp-3}, {[]float64{0.3, 0.2, 0.1}, 0x1.9999999999999p-3},
		{[]float64{1e16, 1, 1}, 0x1.7af4c4a80aaabp51}, {[]float64{1, 1, 1e16}, 0x1.7af4c4a80aaacp51},
		{[]float64{1e16, 1, -1e16}, 0}, {[]float64{1e16, -1e16, 1}, 0x1.5555555555555p-2}, {[]float64{1, 1e16, -1e16}, 0},
		{[]float64{0x1p53, 1, 1, 1}, 0x1p51}, {[]float64{1, 1, 1, 0x1p53}, 0x1p51 + 1}, {[]float64{1, 1, 0x1p53}, (0x1p53 + 2) / 3}, {[]float64{1, 1, 0x1p53, 1}, 0x1p51 + 1},
		{[]float64{1, 0x1p53, 1, 1}, 0x1p51}, {[]float64{3, 0x1p53}, 0x1p52 + 2}, {[]float64{greatest, 1, 1}, greatest / 3},
	} {
		asMean(t, c.l, c.want)
	}
}

func TestMeanThatIsInfinite(t *testing.T) {
	for _, c := range []struct {
		l    []float64
		want float64
	}{
		{[]float64{greatest, greatest}, inf}, {[]float64{-greatest, -greatest}, -inf}, {[]float64{greatest, 0x1p970}, inf},
		{[]float64{greatest, 0x1p969}, 0x1.fffffffffffffp1022}, {[]float64{greatest, greatest, -greatest, -greatest}, inf},
		{[]float64{greatest, -greatest, greatest, -greatest}, 0}, {[]float64{greatest, greatest, -inf}, nan},
		{[]float64{inf, 1}, inf}, {[]float64{1, inf}, inf}, {[]float64{-inf, 1}, -inf}, {[]float64{1, -inf, greatest}, -inf},
		{[]float64{inf, inf}, inf}, {[]float64{-inf, -inf}, -inf}, {[]float64{inf, -greatest, -greatest}, inf},
		{[]float64{inf, -inf}, nan}, {[]float64{-inf, inf}, nan}, {[]float64{inf, 1, -inf, 1}, nan},
	} {
		asMean(t, c.l, c.want)
	}
}

func TestMeanOfNoNumber(t *testing.T) {
	for _, none := range nones() {
		for i := range 4 {
			for _, x := range []float64{1, 0, inf, greatest} {
				l := slices.Repeat([]float64{x}, 4)
				l[i] = none
				asMean(t, l, nan)
			}
		}
	}
}

func TestMeanOf0AndTheLeast(t *testing.T) {
	for _, c := range []struct {
		l    []float64
		want float64
	}{
		{[]float64{minus}, minus}, {[]float64{minus, minus}, minus}, {[]float64{minus, minus, minus}, minus}, {[]float64{0}, 0},
		{[]float64{minus, 0}, 0}, {[]float64{0, minus}, 0}, {[]float64{minus, 0, minus}, 0}, {[]float64{minus, minus, 0}, 0},
		{[]float64{minus, 1}, 0.5}, {[]float64{minus, -1}, -0.5}, {[]float64{1, -1}, 0}, {[]float64{-1, 1}, 0}, {[]float64{minus, 1, -1, minus}, 0},
		{[]float64{least, least}, least}, {[]float64{least, 0}, 0}, {[]float64{-least, 0}, minus}, {[]float64{0, -least, 0}, minus},
		{[]float64{least, least, 0}, least}, {[]float64{-least, -least, 0}, -least}, {[]float64{least, 2 * least}, 2 * least}, {[]float64{normal, -least}, 0x1p-1023},
	} {
		asMean(t, c.l, c.want)
	}
}

func TestMeanOfWhatever(t *testing.T) {
	next, roll := floats(3), dice(3)
	for range 3000 {
		l := []float64{next()}
		total := l[0]
		for range roll() % 12 {
			x := next()
			l, total = append(l, x), sum(total, x)
		}
		asMean(t, l, quotient(total, float64(len(l))))
	}
}

func TestMeanOfMany(t *testing.T) {
	var l []float64
	total := minus
	for i := range 3000 {
		x := float64(i%97)/10 - 3
		l, total = append(l, x), sum(total, x)
	}
	asMean(t, l, quotient(total, 3000))
}

func TestMeanReadsNoRoomBehindTheEnd(t *testing.T) {
	room := []float64{3, 2, 100, nan}
	asMean(t, room[:2], 2.5)
	asMean(t, room[:0], nan)
}

// The weight is asked ahead of all else.
func TestSmoothOfWrongWeight(t *testing.T) {
	for _, weight := range append(nones(), -inf, -greatest, -1, -least, beyond(1), 1.5, 2, greatest, inf) {
		for _, old := range []float64{1, minus, inf, -inf, nan} {
			for _, now := range []float64{3, 1, 0, inf, nan} {
				asSmooth(t, old, now, weight, 0, api.ErrArg)
			}
		}
	}
}

// weights are weights that may be, both 0 and those next to 0 and to 1 among them.
func weights() []float64 {
	return []float64{minus, 0, least, 0x1p-1022, 0.1, 0.5, 0.7, below(1), 1}
}

// Where the old one is no number, the new one is told, whatever it is; only then it is asked, too.
func TestSmoothOfNoNumber(t *testing.T) {
	for _, weight := range weights() {
		for _, none := range nones() {
			for _, x := range ladder() {
				asSmooth(t, none, x, weight, x, api.OK)
				asSmooth(t, x, none, weight, x, api.OK)
			}
			for _, other := range nones() {
				asSmooth(t, none, other, weight, nan, api.OK)
			}
		}
	}
}

func TestSmooth(t *testing.T) {
	for _, c := range []struct{ old, now, weight, want float64 }{
		{1, 3, 0, 1}, {1, 3, minus, 1}, {1, 3, 0.25, 1.5}, {1, 3, 1, 3}, {3, 1, 0.25, 2.5}, {-1, 1, 0.5, 0}, {2, 2, 0.7, 2},
		{1, 3, least, 1}, {1, 3, below(1), 3}, {1, 2, below(1), 2}, {-1, 1, below(1), 1 - 0x1p-52}, {0, 1, least, least}, {0, -1, least, -least}, {0, 1, below(1), below(1)}, {1, 0, below(1), 0x1p-53},
		{0, 0.5, least, 0}, {0, -0.5, least, 0}, {0, beyond(0.5), least, least}, {minus, 0.5, least, 0}, {minus, -0.5, least, minus}, {0, least, 0.5, 0},
		{greatest, 0, 0.5, greatest / 2}, {0, greatest, 1, greatest}, {least, 2 * least, 1, 2 * least},
	} {
		asSmooth(t, c.old, c.now, c.weight, c.want, api.OK)
	}
}

// Of a 0 the sign is what the steps make of it: -0 and 0 are 0, -0 and -0 are -0.
func TestSmoothOf0(t *testing.T) {
	for _, c := range []struct{ old, now, weight, want float64 }{
		{0, 0, 1, 0}, {0, minus, 1, 0}, {minus, 0, 1, 0}, {minus, minus, 1, 0}, {0, 0, minus, 0}, {minus, minus, minus, minus},
		{minus, 1, 0, 0}, {minus, 1, minus, minus}, {minus, -1, 0, minus}, {minus, -1, minus, 0}, {0, 1, minus, 0}, {0, -1, 0, 0},
		{1, 0, 1, 0}, {-1, minus, 1, 0}, {1, minus, 1, 0}, {-1, 0, 1, 0},
	} {
		asSmooth(t, c.old, c.now, c.weight, c.want, api.OK)
	}
}

// Each step is rounded by itself: neither an exact difference, nor a product that is added
// unrounded, nor two products come to these.
func TestSmoothRoundsEachStep(t *testing.T) {
	for _, c := range []struct{ old, now, weight, want float64 }{
		{1e16, 1, 1, 0}, {0x1p53, -1, 1, 0}, {1, 0x1p53 + 2, 1, 0x1p53}, {-1, 0x1p53, 1, 0x1p53 - 1}, {3, 0x1p54, 1, 0x1p54},
		{0.1, 0.4, 1, 0.4}, {0.3, 0.1, 0.5, 0.2}, {1e-20, 1, 1, 1}, {1, 1e-20, 1, 0},
		{1, 0.1, 0.4, 0x1.47ae147ae147ap-1}, {1, 0.1, 0.7, 0x1.7ae147ae147aep-2}, {1, 0.2, 0.8, 0x1.70a3d70a3d708p-2},
		{1, 0.3, 0.8, 0x1.c28f5c28f5c2ap-2}, {1, 0.7, 0.8, 0x1.851eb851eb852p-1}, {1, 0.8, 0.7, 0x1.b851eb851eb86p-1},
		{1, 1 + 0x1p-51, 0.5, 1 + 0x1p-52}, {1, 1 + 0x1p-52, 0.5, 1}, {1 + 0x1p-52, 1 + 0x1p-51, 0.5, 1 + 0x1p-51}, {1e16, 1e16 + 2, 0.5, 1e16},
	} {
		asSmooth(t, c.old, c.now, c.weight, c.want, api.OK)
	}
}

func TestSmoothOfInf(t *testing.T) {
	for _, c := range []struct{ old, now, weight, want float64 }{
		{-greatest, greatest, 0.5, inf}, {greatest, -greatest, 0.5, -inf}, {-greatest, greatest, least, inf},
		{-greatest, greatest, 0, nan}, {greatest, -greatest, minus, nan}, {greatest, -0x1p970, 0.5, -inf}, {greatest, -0x1p969, 0.5, greatest / 2},
		{1, inf, 0.5, inf}, {1, -inf, 0.5, -inf}, {1, inf, 1, inf}, {1, inf, 0, nan}, {1, inf, minus, nan}, {-greatest, inf, least, inf},
		{inf, 1, 0.5, nan}, {inf, 1, 0, nan}, {inf, 1, 1, nan}, {-inf, 1, 0.5, nan}, {-inf, -greatest, 1, nan},
		{inf, inf, 0.5, nan}, {inf, inf, 0, nan}, {-inf, -inf, 1, nan}, {inf, -inf, 0.5, nan}, {-inf, inf, 0.5, nan}, {-inf, inf, 0, nan},
	} {
		asSmooth(t, c.old, c.now, c.weight, c.want, api.OK)
	}
}

// asStepped holds a Smooth against its steps, done by exact numbers, each one rounded.
func asStepped(t *testing.T, old, now, weight float64) {
	t.Helper()
	switch {
	case isNone(weight) || weight < 0 || weight > 1:
		asSmooth(t, old, now, weight, 0, api.ErrArg)
	case isNone(old):
		asSmooth(t, old, now, weight, now, api.OK)
	case isNone(now):
		asSmooth(t, old, now, weight, old, api.OK)
	default:
		asSmooth(t, old, now, weight, sum(old, product(sum(now, -old), weight)), api.OK)
	}
}

func TestSmoothOfWhatever(t *testing.T) {
	for _, old := range ladder() {
		for _, now := range ladder() {
			for _, weight := range []float64{0, minus, 0.3, 1} {
				asStepped(t, old, now, weight)
			}
		}
	}
	next, roll := floats(4), dice(4)
	for range 10_000 {
		old, now, weight := next(), next(), next()
		asStepped(t, old, now, weight)
		weight = float64(roll()>>11) / 0x1p53
		asStepped(t, old, now, weight)
		near := math.Float64frombits(math.Float64bits(old) + roll()%9 - 4)
		asStepped(t, old, near, weight)
	}
}

func TestMille(t *testing.T) {
	for _, c := range []struct {
		x    float64
		want int
	}{
		{0, 0}, {minus, 0}, {1, 1000}, {-1, -1000}, {0.5, 500}, {0.25, 250}, {12.5, 12500}, {1000, 1000000},
		{0.0005, 0}, {0.0015, 1}, {-0.0015, -2}, {-0.0625, -63}, {0.9999, 999}, {-0.9999, -1000},
		{0.125, 125}, {below(0.125), 124}, {beyond(0.125), 125}, {-0.125, -125}, {below(-0.125), -126}, {beyond(-0.125), -125},
		{1, 1000}, {below(1), 999}, {beyond(1), 1000}, {below(-1), -1001}, {beyond(-1), -1000},
		{least, 0}, {-least, -1}, {normal, 0}, {-normal, -1}, {below(0.001), 0}, {-1e-300, -1},
	} {
		asMille(t, c.x, c.want, api.OK)
	}
}

// A number that is just below so many thousandths may be told as so many, since the product
// is rounded up to it; and one that is written as so many may be below it.
func TestMilleRoundsTheProduct(t *testing.T) {
	for _, c := range []struct {
		x    float64
		want int
	}{
		{0.009, 9}, {0.011, 11}, {0.013, 13}, {0.018, 18}, {0.019, 19}, {-0.011, -11}, {-0.007, -7},
		{0.001, 1}, {0.29, 290}, {4.35, 4350}, {1.001, 1000}, {1.005, 1004}, {-1.001, -1001}, {-1.005, -1005},
	} {
		asMille(t, c.x, c.want, api.OK)
	}
}

func TestMilleAtTheLimits(t *testing.T) {
	const top, bottom = 2147483647, -2147483648
	for _, c := range []struct {
		x    float64
		want int
		e    api.Errno
	}{
		{2147483.647, top, 0}, {below(2147483.647), top - 1, 0}, {beyond(2147483.647), top, 0}, {2147483.6475, top, 0},
		{below(2147483.648), top, 0}, {2147483.648, 0, api.ErrLimit}, {beyond(2147483.648), 0, api.ErrLimit}, {2147483.649, 0, api.ErrLimit},
		{-2147483.648, bottom, 0}, {beyond(-2147483.648), bottom, 0}, {-2147483.6475, bottom, 0}, {-2147483.647, bottom + 1, 0},
		{below(-2147483.648), 0, api.ErrLimit}, {-2147483.6485, 0, api.ErrLimit}, {-2147483.649, 0, api.ErrLimit},
		{4294967.296, 0, api.ErrLimit}, {4294967.297, 0, api.ErrLimit}, {-4294967.296, 0, api.ErrLimit}, {0x1p53, 0, api.ErrLimit}, {0x1p63, 0, api.ErrLimit}, {-0x1p64, 0, api.ErrLimit},
	} {
		asMille(t, c.x, c.want, c.e)
	}
}

func TestMilleThatIsInfinite(t *testing.T) {
	for _, x := range []float64{inf, greatest, 1e306, 1e305, 0x1p1014, 0x1p1015} {
		asMille(t, x, 0, api.ErrLimit)
		asMille(t, -x, 0, api.ErrLimit)
	}
}

func TestMilleOfNoNumber(t *testing.T) {
	for _, none := range nones() {
		asMille(t, none, 0, api.ErrArg)
	}
}

// asFloored holds a Mille against a product by exact numbers, rounded, and a whole number below it.
func asFloored(t *testing.T, x float64) {
	t.Helper()
	p := product(1000, x)
	switch {
	case isNone(x):
		asMille(t, x, 0, api.ErrArg)
		return
	case math.IsInf(p, 0):
		asMille(t, x, 0, api.ErrLimit)
		return
	}
	r := exact(p)
	// Div's remainder is never below 0, so that what it answers is the whole number below.
	n := new(big.Int).Div(r.Num(), r.Denom())
	if n.Cmp(big.NewInt(-2147483648)) < 0 || n.Cmp(big.NewInt(2147483647)) > 0 {
		asMille(t, x, 0, api.ErrLimit)
	} else {
		asMille(t, x, int(n.Int64()), api.OK)
	}
}

func TestMilleOfWhatever(t *testing.T) {
	for _, x := range every() {
		asFloored(t, x)
	}
	next, roll := floats(5), dice(5)
	for range 30_000 {
		asFloored(t, next())
		x := float64(int64(roll())>>32) / 1000
		asFloored(t, x)
		asFloored(t, below(x))
		asFloored(t, beyond(x))
	}
}

// Of two one way round it is the other way back, and it goes on from one to the next.
func TestCompareIsAnOrder(t *testing.T) {
	l := every()
	next := floats(6)
	for range 40 {
		l = append(l, next())
	}
	for _, a := range l {
		for _, b := range l {
			ab := gauge.Compare(a, b)
			if gauge.Compare(b, a) != -ab || (ab == 0) != same(a, b) {
				t.Errorf("Compare(%s, %s) = %d, and the other way %d", text(a), text(b), ab, gauge.Compare(b, a))
			}
			for _, c := range l {
				if ab <= 0 && gauge.Compare(b, c) <= 0 && gauge.Compare(a, c) != min(ab, gauge.Compare(b, c)) {
					t.Errorf("Compare goes on from %s, %s to %s by %d", text(a), text(b), text(c), gauge.Compare(a, c))
				}
			}
		}
	}
}

func TestCompareSorts(t *testing.T) {
	l := append(nones(), ladder()...)
	slices.Reverse(l)
	slices.SortFunc(l, gauge.Compare)
	if !slices.EqualFunc(l, every(), same) {
		t.Errorf("in order:%s", texts(l))
	}
}

// By the weight 0 it is the old one: of both 0 each is the other as floats have it, and which
// one it is the steps tell.
func TestSmoothByTheWeight0(t *testing.T) {
	l := ladder()
	next := floats(7)
	for range 200 {
		l = append(l, next())
	}
	for _, old := range l {
		for _, now := range l {
			if isNone(old) || isNone(now) || math.IsInf(now-old, 0) || isNone(now-old) {
				continue
			}
			for _, weight := range []float64{0, minus} {
				x, e := gauge.Smooth(old, now, weight)
				if x != old || e != api.OK || old != 0 && !same(x, old) {
					t.Errorf("Smooth(%s, %s, %s) = %s, %d", text(old), text(now), text(weight), text(x), e)
				}
			}
		}
	}
}

// What is handed in stays as it is, the room behind its end too.
func TestArgumentsStay(t *testing.T) {
	for _, from := range [][]float64{every(), {3, 1, 2}, {0, minus, nan}, {minus}, {greatest, greatest}, nones()} {
		for end := range len(from) + 1 {
			room := slices.Clone(from)
			gauge.Least(room[:end])
			gauge.Mean(room[:end])
			if !slices.EqualFunc(room, from, bitwise) {
				t.Errorf("of%s the first %d are handed in, and there is%s", texts(from), end, texts(room))
			}
		}
	}
}

// bitwise tells also what is no number apart.
func bitwise(a, b float64) bool { return math.Float64bits(a) == math.Float64bits(b) }

// The same is answered each time, whatever was asked between.
func TestAnswersAreTheSameAgain(t *testing.T) {
	for _, a := range every() {
		for _, b := range ladder() {
			share, mean := gauge.Share(a, b), gauge.Mean([]float64{a, b})
			x, ok := gauge.Least([]float64{a, b})
			gauge.Mille(a)
			gauge.Smooth(b, a, 0.5)
			asShare(t, a, b, share)
			asMean(t, []float64{a, b}, mean)
			asLeast(t, []float64{a, b}, x, ok)
		}
	}
}
