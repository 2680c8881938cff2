package decode_test

import (
	"bytes"
	"fmt"
	"math"
	"slices"
	"testing"

	"ciborium/api"
	"ciborium/code"
	"ciborium/decode"
	"ciborium/field"
)

const polynomial = 0x11d

// product is the product of two bytes, bit by bit: slow, and plain.
func product(a, b uint8) uint8 {
	whole := 0
	for bit := range 8 {
		if b>>bit&1 == 1 {
			whole ^= int(a) << bit
		}
	}
	for bit := 15; bit >= 8; bit-- {
		if whole>>bit&1 == 1 {
			whole ^= polynomial << (bit - 8)
		}
	}
	return uint8(whole)
}

// products are all of them, as great coders ask for many.
var products = func() (all [256][256]uint8) {
	for a := range all {
		for b := range all[a] {
			all[a][b] = product(uint8(a), uint8(b))
		}
	}
	return all
}()

// inverse looks for the byte whose product with a is 1.
func inverse(a uint8) uint8 {
	for b := range 256 {
		if products[a][b] == 1 {
			return uint8(b)
		}
	}
	return 0
}

// size is how many rows of data there are, and how many of parity.
type size struct{ k, m int }

func (s size) n() int { return s.k + s.m }

// small are the sizes of coders of so few rows that all sets of them are gone through.
func small() []size {
	var all []size
	for k := 1; k <= 5; k++ {
		for m := 1; m <= 4; m++ {
			all = append(all, size{k, m})
		}
	}
	return append(all, size{6, 2}, size{1, 8}, size{7, 1})
}

// great are sizes of coders of many rows.
func great() []size {
	return []size{{1, 254}, {254, 1}, {2, 253}, {253, 2}, {127, 128}, {128, 127}, {60, 60}, {16, 239}, {200, 54}}
}

// coder answers a coder that there must be.
func coder(t *testing.T, s size) *code.Coder {
	t.Helper()
	c := code.New(field.New(), s.k, s.m)
	if c == nil {
		t.Fatalf("no coder of %d and %d", s.k, s.m)
	}
	return c
}

// text answers so many bytes, the same ones each time.
func text(size int, seed uint32) []byte {
	b := make([]byte, size)
	for i := range b {
		seed = seed*1664525 + 1013904223
		b[i] = byte(seed >> 16)
	}
	return b
}

// rows answers so many rows of so many bytes.
func rows(many, width int, seed uint32) [][]byte {
	all := make([][]byte, many)
	for i := range all {
		all[i] = text(width, seed+uint32(i)*7919)
	}
	return all
}

// units answers rows of data of which each has a 1 at a place of its own, so that a shard shows its factors.
func units(k int) [][]byte {
	all := make([][]byte, k)
	for i := range all {
		all[i] = make([]byte, k)
		all[i][i] = 1
	}
	return all
}

// plain is what a coder is to make of data, byte by byte: the data, and the parity behind it.
func plain(s size, data [][]byte) [][]byte {
	all := clone(data)
	for i := s.k; i < s.n(); i++ {
		row := make([]byte, len(data[0]))
		for j, of := range data {
			factor := inverse(uint8(i ^ j))
			for at, x := range of {
				row[at] ^= products[factor][x]
			}
		}
		all = append(all, row)
	}
	return all
}

// combined is the plain sum of the rows of these numbers, each times its factor.
func combined(from []int, factors []byte, list [][]byte) []byte {
	sum := make([]byte, len(list[from[0]]))
	for at, i := range from {
		for place, x := range list[i] {
			sum[place] ^= products[factors[at]][x]
		}
	}
	return sum
}

// clone answers a copy, with its own memory. What is nil stays so.
func clone(a [][]byte) [][]byte {
	all := make([][]byte, len(a))
	for i, row := range a {
		all[i] = bytes.Clone(row)
	}
	return all
}

// only answers the rows of these numbers in their places, and the others as missing ones: nil, and empty, by turns.
func only(list [][]byte, numbers []int) [][]byte {
	all := make([][]byte, len(list))
	for i := range all {
		if i%2 == 1 {
			all[i] = []byte{}
		}
	}
	for _, i := range numbers {
		all[i] = bytes.Clone(list[i])
	}
	return all
}

// sets answers all sets of numbers below n, rising, that have from least to most of them.
func sets(n, least, most int) [][]int {
	var all [][]int
	for bits := range 1 << n {
		var set []int
		for i := range n {
			if bits>>i&1 == 1 {
				set = append(set, i)
			}
		}
		if least <= len(set) && len(set) <= most {
			all = append(all, set)
		}
	}
	return all
}

// numbers answers those from a on that are below b, by step.
func numbers(a, b, step int) []int {
	var all []int
	for i := a; i < b; i += step {
		all = append(all, i)
	}
	return all
}

// some answers some sets of at least k of a great coder's numbers, rising.
func some(s size) [][]int {
	n := s.n()
	all := [][]int{numbers(0, n, 1), numbers(0, s.k, 1), numbers(s.m, n, 1), numbers(1, n, 1), numbers(0, n-1, 1), numbers(1, s.k+1, 1)}
	every := numbers(0, n, 2)
	for i := n - 1; len(every) < s.k; i-- {
		if !slices.Contains(every, i) {
			every = append(every, i)
		}
	}
	slices.Sort(every)
	amid := numbers(0, s.k/2, 1)
	return append(all, every, append(amid, numbers(n-s.k+len(amid), n, 1)...))
}

// setsOf answers sets of numbers of which a coder's data comes: all of a small one, some of a great one.
func setsOf(s size) [][]int {
	if s.n() <= 9 {
		return sets(s.n(), s.k, s.n())
	}
	return some(s)
}

// shuffled answers a list in another order, the same one each time.
func shuffled(list []int, seed uint32) []int {
	all := slices.Clone(list)
	for i := len(all) - 1; i > 0; i-- {
		seed = seed*1664525 + 1013904223
		j := int(seed>>8) % (i + 1)
		all[i], all[j] = all[j], all[i]
	}
	return all
}

// same tells whether two lists of rows are the same.
func same(a, b [][]byte) bool { return slices.EqualFunc(a, b, bytes.Equal) }

// brief answers what is told of rows: how many there are, and the beginnings of the first ones.
func brief(list [][]byte) string {
	told := fmt.Sprint(len(list), " rows:")
	for _, row := range list[:min(len(list), 9)] {
		told += fmt.Sprint(" ", len(row), " bytes ", row[:min(len(row), 6)])
	}
	return told
}

// are tells what goes wrong with an answer that is to be rows.
func are(t *testing.T, name string, got [][]byte, e api.Errno, want [][]byte) {
	t.Helper()
	if e != api.OK || !same(got, want) {
		t.Errorf("%s = %s, %d, want %s", name, brief(got), e, brief(want))
	}
}

// plans tells what goes wrong with a plan.
func plans(t *testing.T, name string, c *code.Coder, have []int, want int, from []int, factors []byte) {
	t.Helper()
	gotFrom, gotFactors, e := decode.Plan(c, have, want)
	if e != api.OK || !slices.Equal(gotFrom, from) || !bytes.Equal(gotFactors, factors) {
		t.Errorf("%s: Plan of %v for %d = %v, %v, %d, want %v, %v", name, have, want, gotFrom, gotFactors, e, from, factors)
	}
}

// planFails tells what goes wrong with a plan that is to be an error.
func planFails(t *testing.T, name string, c *code.Coder, have []int, want int, refusal api.Errno) {
	t.Helper()
	from, factors, e := decode.Plan(c, have, want)
	if e != refusal || len(from) != 0 || len(factors) != 0 {
		t.Errorf("%s: Plan of %v for %d = %v, %v, %d, want none, %d", name, have, want, from, factors, e, refusal)
	}
}

// bothFail tells what goes wrong with Data and All that are to be an error.
func bothFail(t *testing.T, name string, c *code.Coder, shards [][]byte, refusal api.Errno) {
	t.Helper()
	data, e := decode.Data(c, shards)
	if e != refusal || len(data) != 0 {
		t.Errorf("%s: Data = %s, %d, want none, %d", name, brief(data), e, refusal)
	}
	all, e := decode.All(c, shards)
	if e != refusal || len(all) != 0 {
		t.Errorf("%s: All = %s, %d, want none, %d", name, brief(all), e, refusal)
	}
}

// bothAre tells what goes wrong with Data and All that are to be these n rows, and the first k of them.
func bothAre(t *testing.T, name string, c *code.Coder, shards, want [][]byte) {
	t.Helper()
	data, e := decode.Data(c, shards)
	are(t, name+": Data", data, e, want[:c.K()])
	all, e := decode.All(c, shards)
	are(t, name+": All", all, e, want)
}

// The example

func TestExample(t *testing.T) {
	c := coder(t, size{1, 2})
	// Shard 1 is the data (1 by 1), shard 2 the data by 2, which is 142 times it.
	plans(t, "the example", c, []int{2}, 0, []int{2}, []byte{2})
	plans(t, "the example", c, []int{2}, 1, []int{2}, []byte{2})
	plans(t, "the example", c, []int{2}, 2, []int{2}, []byte{1})
	plans(t, "the example", c, []int{1}, 0, []int{1}, []byte{1})
	plans(t, "the example", c, []int{1}, 2, []int{1}, []byte{142})
	plans(t, "the example", c, []int{0}, 2, []int{0}, []byte{142})
	bothAre(t, "the example", c, [][]byte{nil, nil, {140}}, [][]byte{{5}, {5}, {140}})
	bothAre(t, "the example", c, [][]byte{nil, {5}, nil}, [][]byte{{5}, {5}, {140}})
	bothAre(t, "the example", c, [][]byte{{5}, nil, nil}, [][]byte{{5}, {5}, {140}})
}

func TestOneParityIsOneMoreRow(t *testing.T) {
	// Of k 2, m 1 the parity has the factors 1 by 2 and 1 by 3: 142 and 244. 1 by 142 is 2, 1 by 244 is 3; 244 times 2 is 245, 142 times 3 is 143.
	c := coder(t, size{2, 1})
	plans(t, "k 2, m 1", c, []int{1, 2}, 0, []int{1, 2}, []byte{245, 2})
	plans(t, "k 2, m 1", c, []int{0, 2}, 1, []int{0, 2}, []byte{143, 3})
	plans(t, "k 2, m 1", c, []int{0, 1}, 2, []int{0, 1}, []byte{142, 244})
	bothAre(t, "k 2, m 1", c, [][]byte{nil, {0}, {142}}, [][]byte{{1}, {0}, {142}})
	bothAre(t, "k 2, m 1", c, [][]byte{{1}, nil, {142}}, [][]byte{{1}, {0}, {142}})
	bothAre(t, "k 2, m 1", c, [][]byte{{1}, {0}, nil}, [][]byte{{1}, {0}, {142}})
}

// P6.1

// plansOf holds the plans of a set of numbers, in this order, against the shards themselves.
func plansOf(t *testing.T, c *code.Coder, s size, have []int, shards [][]byte) {
	t.Helper()
	want := slices.Clone(have)
	slices.Sort(want)
	want = want[:s.k]
	for i, shard := range shards {
		from, factors, e := decode.Plan(c, have, i)
		if e != api.OK || !slices.Equal(from, want) || len(factors) != s.k {
			t.Fatalf("%v: Plan of %v for %d = %v, %v, %d, want %v", s, have, i, from, factors, e, want)
		}
		// No factors but one list are right of units, as rows of k shards are never sums of one another.
		if got := combined(from, factors, shards); !bytes.Equal(got, shard) {
			t.Errorf("%v: Plan of %v for %d: %v by %v are %v, want %v", s, have, i, from, factors, got, shard)
		}
	}
}

func TestPlan(t *testing.T) {
	for _, s := range small() {
		c := coder(t, s)
		shards := plain(s, units(s.k))
		for at, have := range setsOf(s) {
			plansOf(t, c, s, have, shards)
			reversed := slices.Clone(have)
			slices.Reverse(reversed)
			plansOf(t, c, s, reversed, shards)
			plansOf(t, c, s, shuffled(have, uint32(at)), shards)
		}
	}
}

func TestPlanOfGreatCoders(t *testing.T) {
	for _, s := range great() {
		c := coder(t, s)
		shards := plain(s, units(s.k))
		for at, have := range setsOf(s) {
			have = shuffled(have, uint32(at))
			least := slices.Sorted(slices.Values(have))[:s.k]
			for _, want := range []int{0, 1, s.k / 2, s.k - 1, s.k, s.n() / 2, s.n() - 2, s.n() - 1} {
				from, factors, e := decode.Plan(c, have, want)
				if e != api.OK || !slices.Equal(from, least) || len(factors) != s.k {
					t.Fatalf("%v: Plan for %d is by %v and %d factors, %d, want by %v", s, want, from, len(factors), e, least)
				}
				if got := combined(from, factors, shards); !bytes.Equal(got, shards[want]) {
					t.Errorf("%v: Plan for %d: the sum is %v, want %v", s, want, got, shards[want])
				}
			}
		}
	}
}

func TestPlanOfAllOrders(t *testing.T) {
	c := coder(t, size{3, 2})
	shards := plain(size{3, 2}, units(3))
	var orders func(list, rest []int)
	orders = func(list, rest []int) {
		if len(list) >= 3 {
			plansOf(t, c, size{3, 2}, list, shards)
		}
		for at := range rest {
			left := slices.Delete(slices.Clone(rest), at, at+1)
			orders(append(slices.Clone(list), rest[at]), left)
		}
	}
	orders(nil, []int{0, 1, 2, 3, 4})
}

func TestPlanOfOneThatIsThere(t *testing.T) {
	for _, s := range append(small(), size{60, 60}) {
		c := coder(t, s)
		for _, have := range setsOf(s) {
			for at, want := range have[:s.k] {
				factors := make([]byte, s.k)
				factors[at] = 1 // it is itself, and nothing of the others
				plans(t, "one that is there", c, shuffled(have, 5), want, have[:s.k], factors)
			}
		}
	}
}

func TestPlanOfOneThatIsThereBehindTheFirst(t *testing.T) {
	// Shard 4 is there, but the k least are others: it is their sum by its own factors.
	c := coder(t, size{2, 3})
	plans(t, "one behind the first", c, []int{4, 1, 0}, 4, []int{0, 1}, []byte{inverse(4), inverse(5)})
	plans(t, "one behind the first", c, []int{0, 1, 2, 3, 4}, 3, []int{0, 1}, []byte{inverse(3), inverse(2)})
	from, factors, e := decode.Plan(c, []int{4, 3, 2}, 4)
	if e != api.OK || !slices.Equal(from, []int{2, 3}) || len(factors) != 2 || factors[0] == 0 || factors[1] == 0 {
		t.Errorf("Plan of 4, 3, 2 for 4 = %v, %v, %d", from, factors, e)
	}
}

func TestPlanOfParityByData(t *testing.T) {
	for _, s := range append(small(), great()...) {
		c := coder(t, s)
		for _, want := range []int{s.k, s.k + s.m/2, s.n() - 1} {
			factors := make([]byte, s.k)
			for j := range factors {
				factors[j] = inverse(uint8(want ^ j))
			}
			plans(t, "parity by data", c, numbers(0, s.k, 1), want, numbers(0, s.k, 1), factors)
			plans(t, "parity by data, parity beside it", c, numbers(0, s.n(), 1), want, numbers(0, s.k, 1), factors)
		}
	}
}

func TestPlanOfTooFew(t *testing.T) {
	for _, s := range small() {
		c := coder(t, s)
		for _, have := range sets(s.n(), 0, s.k-1) {
			for want := range s.n() {
				planFails(t, "too few", c, have, want, api.ErrFew)
				planFails(t, "too few, shuffled", c, shuffled(have, 7), want, api.ErrFew)
			}
		}
		planFails(t, "nil", c, nil, 0, api.ErrFew)
		planFails(t, "none", c, []int{}, s.n()-1, api.ErrFew)
		// What is behind a list's end is nobody's.
		planFails(t, "room behind the end", c, numbers(0, s.n(), 1)[:s.k-1], 0, api.ErrFew)
	}
	for _, s := range great() {
		c := coder(t, s)
		for _, have := range [][]int{nil, numbers(0, s.k-1, 1), numbers(s.m+1, s.n(), 1)} {
			planFails(t, "too few", c, have, 0, api.ErrFew)
		}
	}
}

// noNumbers are those that no shard of a coder has.
func noNumbers(s size) []int {
	return []int{-1, -2, -s.k, -s.n(), -256, s.n(), s.n() + 1, 2 * s.n(), 255, 256, 256 + s.k - 1, 257, 1 << 16, 1 << 32, 1<<32 + 1, -1 << 32, 1 << 62, math.MaxInt, math.MaxInt - 1, math.MinInt, math.MinInt + 1}
}

func TestPlanOfNoNumbers(t *testing.T) {
	for _, s := range append(small(), great()...) {
		c := coder(t, s)
		for _, bad := range noNumbers(s) {
			for _, have := range [][]int{numbers(0, s.n(), 1), numbers(s.m, s.n(), 1), numbers(0, s.k-1, 1), nil} {
				planFails(t, "no number is wanted", c, have, bad, api.ErrArg)
				for _, at := range []int{0, len(have) / 2, len(have)} {
					with := slices.Insert(slices.Clone(have), at, bad)
					planFails(t, "no number is there", c, with, 0, api.ErrArg)
					planFails(t, "no number is there, nor wanted", c, with, bad, api.ErrArg)
				}
			}
		}
	}
}

func TestPlanOfNumbersTwice(t *testing.T) {
	for _, s := range append(small(), great()...) {
		c := coder(t, s)
		for _, have := range [][]int{numbers(0, s.n(), 1), numbers(s.m, s.n(), 1), numbers(0, s.k, 1), {0}, {s.n() - 1}} {
			for _, twice := range []int{have[0], have[len(have)/2], have[len(have)-1]} {
				for _, at := range []int{0, len(have) / 2, len(have)} {
					with := slices.Insert(slices.Clone(have), at, twice)
					for _, want := range []int{0, s.n() - 1, twice, -1, s.n()} {
						planFails(t, "a number stands twice", c, with, want, api.ErrArg)
					}
				}
			}
		}
	}
}

func TestPlanOfLongLists(t *testing.T) {
	c := coder(t, size{2, 2})
	planFails(t, "k times the same", c, []int{3, 3}, 0, api.ErrArg)
	planFails(t, "all of them twice", c, []int{0, 1, 2, 3, 3, 2, 1, 0}, 0, api.ErrArg)
	planFails(t, "noughts", c, make([]int, 1<<20), 0, api.ErrArg)
	planFails(t, "numbers past the end", c, numbers(0, 1<<20, 1), 0, api.ErrArg)
	planFails(t, "numbers below 0", c, numbers(-1<<20, 4, 1), 0, api.ErrArg)
}

// P6.2

func TestAllThere(t *testing.T) {
	for _, s := range append(small(), great()...) {
		c := coder(t, s)
		for _, width := range []int{1, 2, 44} {
			shards := plain(s, rows(s.k, width, 1))
			bothAre(t, "all are there", c, shards, shards)
		}
	}
}

// TestSomeThere stands for P6.3 as well: of any k of what a coder makes all of it comes back.
func TestSomeThere(t *testing.T) {
	for _, s := range append(small(), great()...) {
		c := coder(t, s)
		for _, width := range []int{1, 7} {
			data := rows(s.k, width, 2)
			shards, e := c.All(data)
			if e != api.OK || !same(shards, plain(s, data)) {
				t.Fatalf("%v: the coder's rows are %s, %d", s, brief(shards), e)
			}
			for _, have := range setsOf(s) {
				bothAre(t, fmt.Sprint(s, ", there are ", have), c, only(shards, have), shards)
			}
		}
	}
}

func TestTooFewThere(t *testing.T) {
	for _, s := range small() {
		c := coder(t, s)
		shards := plain(s, rows(s.k, 3, 3))
		for _, have := range sets(s.n(), 0, s.k-1) {
			bothFail(t, fmt.Sprint(s, ", there are ", have), c, only(shards, have), api.ErrFew)
		}
		bothFail(t, "all are nil", c, make([][]byte, s.n()), api.ErrFew)
	}
	for _, s := range great() {
		c := coder(t, s)
		shards := plain(s, rows(s.k, 3, 3))
		for _, have := range [][]int{nil, numbers(0, s.k-1, 1), numbers(s.m+1, s.n(), 1)} {
			bothFail(t, "too few are there", c, only(shards, have), api.ErrFew)
		}
	}
}

// wrongCounts are how many rows aren't those of a coder.
func wrongCounts(s size) []int {
	return []int{0, 1, s.k, s.m, s.n() - 1, s.n() + 1, 2 * s.n(), s.n() + 256, 300}
}

func TestTooFewAndTooManyRows(t *testing.T) {
	for _, s := range append(small(), great()...) {
		c := coder(t, s)
		for _, many := range wrongCounts(s) {
			if many == s.n() {
				continue
			}
			bothFail(t, fmt.Sprint(s, ", ", many, " rows"), c, rows(many, 4, 4), api.ErrArg)
			bothFail(t, fmt.Sprint(s, ", ", many, " rows that are missing"), c, make([][]byte, many), api.ErrArg)
		}
		bothFail(t, "nil", c, nil, api.ErrArg)
		// One too many is one too many, even if it is missing.
		bothFail(t, "a missing row behind all", c, append(rows(s.n(), 4, 5), nil), api.ErrArg)
		bothFail(t, "a row behind those of data", c, rows(s.n()+1, 4, 5)[:s.n()-1], api.ErrArg)
	}
}

func TestRowsOfUnlikeLengths(t *testing.T) {
	for _, s := range append(small(), great()...) {
		c, n := coder(t, s), s.n()
		shards := plain(s, rows(s.k, 4, 6))
		for _, at := range []int{0, s.k - 1, s.k, n - 1} {
			for _, width := range []int{1, 3, 5, 8, 4 + 256} {
				with := clone(shards)
				with[at] = text(width, 7)
				bothFail(t, fmt.Sprint(s, ", row ", at, " has ", width, " bytes"), c, with, api.ErrArg)
				// Together with too few rows ErrArg comes first, too.
				other := (at + 1) % n
				alone := make([][]byte, n)
				alone[at], alone[other] = text(width, 7), text(4, 7)
				bothFail(t, fmt.Sprint(s, ", rows ", at, " and ", other, " alone are unlike"), c, alone, api.ErrArg)
			}
			// One without bytes is missing, and not unlike the others.
			for _, none := range [][]byte{nil, {}, text(9, 7)[:0]} {
				with := clone(shards)
				with[at] = none
				bothAre(t, fmt.Sprint(s, ", row ", at, " has no bytes"), c, with, shards)
			}
		}
	}
}

func TestUnlikeRowBehindTheFirst(t *testing.T) {
	// A row isn't asked for, but isn't right either: so nothing is.
	c := coder(t, size{2, 2})
	bothFail(t, "the last row is longer", c, [][]byte{{1}, {2}, nil, {3, 4}}, api.ErrArg)
	bothFail(t, "the last row is shorter", c, [][]byte{{1, 5}, {2, 6}, nil, {3}}, api.ErrArg)
}

func TestRowsWithoutBytes(t *testing.T) {
	for _, s := range append(small(), great()...) {
		c := coder(t, s)
		empty := make([][]byte, s.n())
		for i := range empty {
			empty[i] = []byte{}
		}
		bothFail(t, "all are empty", c, empty, api.ErrFew)
		bothFail(t, "all are nil", c, make([][]byte, s.n()), api.ErrFew)
		bothFail(t, "one too many, and empty", c, append(empty, nil), api.ErrArg)
	}
}

func TestNoughtsAreThere(t *testing.T) {
	// A row of noughts has bytes: it isn't missing.
	for _, s := range append(small(), great()...) {
		c := coder(t, s)
		for _, width := range []int{1, 5} {
			want := plain(s, make([][]byte, s.k))
			for i := range want {
				want[i] = make([]byte, width)
			}
			for _, have := range setsOf(s) {
				bothAre(t, "noughts", c, only(want, have), want)
			}
		}
	}
}

func TestWideRows(t *testing.T) {
	s := size{2, 2}
	c := coder(t, s)
	shards := plain(s, rows(2, 65537, 8))
	for _, have := range sets(4, 2, 4) {
		bothAre(t, fmt.Sprint("there are ", have), c, only(shards, have), shards)
	}
}

// fitting answers rows of which those that are there are as told, and the others are what comes of the first k of these.
func fitting(c *code.Coder, shards [][]byte, have []int) [][]byte {
	all := clone(shards)
	for i := range all {
		if slices.Contains(have, i) {
			continue
		}
		from, factors, _ := decode.Plan(c, have, i)
		all[i] = combined(from, factors, shards)
	}
	return all
}

func TestRowsThatDoNotFit(t *testing.T) {
	// Rows that no coder made: what is there comes back, and what isn't is of the first k, whatever the others say.
	for _, s := range append(small(), size{60, 60}) {
		c := coder(t, s)
		shards := rows(s.n(), 5, 9)
		for _, have := range setsOf(s) {
			there := only(shards, have)
			want := fitting(c, there, have)
			bothAre(t, fmt.Sprint(s, ", there are ", have), c, there, want)
			// The others may be changed: nothing else goes with them.
			for _, i := range have[s.k:] {
				other, wanted := clone(there), clone(want)
				other[i][1] ^= 0x5a
				wanted[i][1] ^= 0x5a
				bothAre(t, fmt.Sprint(s, ", there are ", have, ", ", i, " is another one"), c, other, wanted)
			}
		}
	}
}

func TestRowThatDoesNotFit(t *testing.T) {
	c := coder(t, size{1, 2})
	bothAre(t, "the last is wrong", c, [][]byte{nil, {5}, {7}}, [][]byte{{5}, {5}, {7}})
	bothAre(t, "the first is wrong", c, [][]byte{{6}, nil, {140}}, [][]byte{{6}, {6}, {140}})
	bothAre(t, "the second is wrong", c, [][]byte{{5}, {1}, nil}, [][]byte{{5}, {1}, {140}})
	c = coder(t, size{2, 2})
	bothAre(t, "all are unlike", c, [][]byte{{1}, {0}, {9}, {9}}, [][]byte{{1}, {0}, {9}, {9}})
	bothAre(t, "the last is wrong", c, [][]byte{{1}, {0}, nil, {9}}, [][]byte{{1}, {0}, {142}, {9}})
	bothAre(t, "the last is wrong", c, [][]byte{{1}, nil, {142}, {9}}, [][]byte{{1}, {0}, {142}, {9}})
}

// P6.3

func TestWhatComesBackIsWhatTheCoderMakes(t *testing.T) {
	for _, s := range append(small(), great()...) {
		c := coder(t, s)
		shards := rows(s.n(), 4, 10)
		for _, have := range setsOf(s) {
			there := only(shards, have[:s.k])
			data, e := decode.Data(c, there)
			if e != api.OK || len(data) != s.k {
				t.Fatalf("%v: Data = %s, %d", s, brief(data), e)
			}
			made := plain(s, data)
			for _, i := range have[:s.k] {
				if !bytes.Equal(made[i], shards[i]) {
					t.Errorf("%v: of %v row %d comes back as %v, it was %v", s, have[:s.k], i, made[i], shards[i])
				}
			}
			all, e := decode.All(c, there)
			are(t, fmt.Sprint(s, ", there are ", have[:s.k]), all, e, made)
		}
	}
}

func TestWhatIsMadeIsMadeAgain(t *testing.T) {
	// Of k rows, whatever they are, come all; of any k of these come the same.
	for _, s := range []size{{1, 3}, {2, 2}, {3, 2}, {2, 4}, {4, 3}} {
		c := coder(t, s)
		for _, have := range sets(s.n(), s.k, s.k) {
			whole, e := decode.All(c, only(rows(s.n(), 3, 11), have))
			if e != api.OK {
				t.Fatalf("%v: All = %d", s, e)
			}
			for _, other := range sets(s.n(), s.k, s.k) {
				bothAre(t, fmt.Sprint(s, ", of ", have, " and then of ", other), c, only(whole, other), whole)
			}
		}
	}
}

func TestPlansAreWhatIsMade(t *testing.T) {
	for _, s := range append(small(), size{60, 60}) {
		c := coder(t, s)
		shards := plain(s, rows(s.k, 6, 12))
		for at, have := range setsOf(s) {
			for _, want := range []int{0, s.k - 1, s.k, s.n() - 1} {
				from, factors, e := decode.Plan(c, shuffled(have, uint32(at)), want)
				if e != api.OK || !bytes.Equal(combined(from, factors, shards), shards[want]) {
					t.Errorf("%v: Plan of %v for %d = %v, %v, %d: not the shard", s, have, want, from, factors, e)
				}
			}
		}
	}
}

// A coder that isn't there

// nobodys are coders that nobody made.
func nobodys() map[string]*code.Coder {
	var zero code.Coder
	return map[string]*code.Coder{"nil": nil, "zero": &zero, "new": new(code.Coder), "refused": code.New(field.New(), 0, 1), "of no field": code.New(nil, 2, 1)}
}

func TestNobodysCoder(t *testing.T) {
	for name, c := range nobodys() {
		for _, have := range [][]int{nil, {}, {0}, {0, 1}, {1, 0, 2}, {-1}, {255}, {3, 3}, {math.MaxInt}, {math.MinInt, 0}, make([]int, 300)} {
			for _, want := range []int{0, 1, 2, -1, 254, 255, 256, math.MaxInt, math.MinInt} {
				planFails(t, name, c, have, want, api.ErrNil)
			}
		}
		for _, shards := range [][][]byte{nil, {}, {nil}, {{}}, {{1}}, {{1}, {2}}, {{1}, nil}, {nil, nil}, {{1}, {2, 3}}, {{1, 2}, {3, 4}, {5, 6}}, rows(255, 2, 13), rows(300, 2, 13), make([][]byte, 300)} {
			bothFail(t, name, c, shards, api.ErrNil)
		}
		if c != nil && *c != (code.Coder{}) {
			t.Errorf("%s: it was changed", name)
		}
	}
}

// R3

// roomy answers rows with room behind their ends, and all of that. Missing ones have some, too.
func roomy(list [][]byte) ([][]byte, [][]byte) {
	var short, all [][]byte
	for _, row := range list {
		whole := append(bytes.Clone(row), "what somebody else keeps"...)
		short, all = append(short, whole[:len(row)]), append(all, whole)
	}
	return append(short, []byte("a row behind the end"))[:len(list)], all
}

// calls answers, by its name, each call that answers rows.
func calls(c *code.Coder, shards [][]byte) map[string]func() ([][]byte, api.Errno) {
	return map[string]func() ([][]byte, api.Errno){
		"Data": func() ([][]byte, api.Errno) { return decode.Data(c, shards) },
		"All":  func() ([][]byte, api.Errno) { return decode.All(c, shards) },
	}
}

// handed answers lists of shards as they may be handed in: right ones, and wrong ones.
func handed(s size) [][][]byte {
	shards := rows(s.n(), 5, 14)
	all := [][][]byte{shards, rows(s.n()+1, 5, 15), rows(s.n()-1, 5, 16), make([][]byte, s.n()), only(shards, numbers(0, s.k-1, 1))}
	for _, have := range setsOf(s) {
		all = append(all, only(shards, have))
	}
	unlike := clone(shards)
	unlike[s.n()-1] = text(6, 17)
	return append(all, unlike)
}

func TestNothingIsChanged(t *testing.T) {
	for _, s := range append(small(), size{60, 60}) {
		c := coder(t, s)
		for _, list := range handed(s) {
			short, all := roomy(list)
			behind := bytes.Clone(short[:len(list)+1][len(list)])
			kept, keptShort := clone(all), clone(short)
			for name, call := range calls(c, short) {
				got, _ := call()
				for i, row := range got {
					row = append(row, "behind"...)
					for at := range row {
						row[at] = ^row[at]
					}
					got[i] = nil
				}
				_ = append(got, []byte("behind"))
				if !same(all, kept) || !same(short, keptShort) || !bytes.Equal(short[:len(list)+1][len(list)], behind) {
					t.Fatalf("%v: %s: what was handed in was changed", s, name)
				}
			}
		}
	}
}

func TestPlanChangesNothing(t *testing.T) {
	for _, s := range append(small(), size{60, 60}) {
		c := coder(t, s)
		for at, set := range append(setsOf(s), numbers(0, s.k-1, 1), []int{0, 0}, []int{-1, 0}) {
			whole := append(shuffled(set, uint32(at)), 77, 78, 79)
			have, kept := whole[:len(set)], slices.Clone(whole)
			for _, want := range []int{0, s.k - 1, s.n() - 1, -1, s.n()} {
				from, factors, _ := decode.Plan(c, have, want)
				keptFrom, keptFactors := slices.Clone(from), bytes.Clone(factors)
				// One of the two answers doesn't go with the other one.
				clear(factors[:cap(factors)])
				if !slices.Equal(from, keptFrom) {
					t.Errorf("%v: numbers go with factors", s)
				}
				clear(from[:cap(from)])
				_, _ = append(from, 5, 6, 7), append(factors, 5, 6, 7)
				if !slices.Equal(whole, kept) {
					t.Fatalf("%v: Plan changes %v to %v", s, kept, whole)
				}
				again, factorsAgain, _ := decode.Plan(c, have, want)
				if !slices.Equal(again, keptFrom) || !bytes.Equal(factorsAgain, keptFactors) {
					t.Errorf("%v: Plan of %v for %d = %v, %v, and then %v, %v", s, have, want, keptFrom, keptFactors, again, factorsAgain)
				}
			}
		}
	}
}

func TestAnswersAreNewMemory(t *testing.T) {
	for _, s := range append(small(), size{60, 60}) {
		c := coder(t, s)
		for _, list := range handed(s) {
			for name, call := range calls(c, list) {
				first, e := call()
				kept := clone(first)
				second, _ := call()
				for i, row := range second {
					clear(row[:cap(row)])
					second[i] = nil
				}
				if !same(first, kept) {
					t.Errorf("%v: %s: two answers share memory", s, name)
				}
				third, again := call()
				if e != again || !same(third, kept) {
					t.Errorf("%v: %s = %s, %d, and then %s, %d", s, name, brief(kept), e, brief(third), again)
				}
			}
		}
	}
}

func TestRowsOfAnAnswerShareNothing(t *testing.T) {
	for _, s := range append(small(), size{60, 60}) {
		c, one := coder(t, s), text(5, 18)
		for _, have := range setsOf(s) {
			list := make([][]byte, s.n())
			for _, i := range have {
				list[i] = one // a row that stands in several places is several rows in the answer
			}
			for name, call := range calls(c, list) {
				got, e := call()
				if e != api.OK {
					t.Fatalf("%v: %s: %d", s, name, e)
				}
				want := clone(got)
				for i, row := range got {
					for at := range cap(row) {
						row[:cap(row)][at] ^= 0xff
					}
					for other := i + 1; other < len(got); other++ {
						if !bytes.Equal(got[other], want[other]) {
							t.Fatalf("%v: %s: row %d goes with row %d", s, name, other, i)
						}
					}
				}
			}
			if !bytes.Equal(one, text(5, 18)) {
				t.Fatalf("%v: a row that was handed in goes with the answer", s)
			}
		}
	}
}

func TestWhatWasHandedInIsNotKept(t *testing.T) {
	for _, s := range append(small(), size{60, 60}) {
		c := coder(t, s)
		for _, list := range handed(s) {
			kept := map[string][2][][]byte{}
			for name, call := range calls(c, list) {
				got, _ := call()
				kept[name] = [2][][]byte{got, clone(got)}
			}
			for i, row := range list {
				clear(row)
				list[i] = nil
			}
			for name, pair := range kept {
				if !same(pair[0], pair[1]) {
					t.Errorf("%v: %s: the answer goes with what was handed in", s, name)
				}
			}
		}
		have := numbers(s.m, s.n(), 1)
		from, _, _ := decode.Plan(c, have, 0)
		clear(have)
		if !slices.Equal(from, numbers(s.m, s.n(), 1)) {
			t.Errorf("%v: Plan's numbers go with what was handed in: %v", s, from)
		}
	}
}

// R4

func TestCodersAnswerTheSame(t *testing.T) {
	f := field.New()
	for _, s := range small() {
		one, two, other := code.New(f, s.k, s.m), code.New(f, s.k, s.m), code.New(field.New(), s.k, s.m)
		beside := code.New(f, s.m, s.k) // of other numbers, with the same field: it changes nothing for the others
		have := numbers(s.m, s.n(), 1)
		shards := only(rows(s.n(), 6, 19), have)
		first, e := decode.All(one, shards)
		from, factors, e2 := decode.Plan(one, have, 0)
		if e != api.OK || e2 != api.OK {
			t.Fatalf("%v: All %d, Plan %d", s, e, e2)
		}
		decode.All(beside, shards)
		decode.Plan(beside, have, 0)
		for _, c := range []*code.Coder{one, two, other} {
			bothAre(t, fmt.Sprint(s, " once more"), c, shards, first)
			plans(t, fmt.Sprint(s, " once more"), c, have, 0, from, factors)
		}
	}
}
