package delta_test

import (
	"bytes"
	"fmt"
	"math"
	"slices"
	"testing"

	"ciborium/api"
	"ciborium/code"
	"ciborium/delta"
	"ciborium/field"
)

// size is how many rows of data there are, and how many of parity.
type size struct{ k, m int }

func (s size) n() int { return s.k + s.m }

// small are the sizes of all coders of few rows.
func small() []size {
	var all []size
	for k := 1; k <= 5; k++ {
		for m := 1; m <= 4; m++ {
			all = append(all, size{k, m})
		}
	}
	return all
}

// every are these, and sizes of coders of many rows.
func every() []size {
	return append(small(), size{1, 254}, size{254, 1}, size{2, 253}, size{253, 2}, size{127, 128}, size{128, 127}, size{60, 60})
}

// coder answers a coder that there must be.
func coder(t *testing.T, s size) *code.Coder {
	t.Helper()
	c := code.New(field.New(), s.k, s.m)
	if c == nil {
		t.Fatalf("no coder of %d and %d", s.k, s.m)
	}
	return c
}

// text answers so many bytes, the same ones each time; none of them is 0, so that what is added to a row is seen in each byte.
func text(length int, seed uint32) []byte {
	b := make([]byte, length)
	for i := range b {
		seed = seed*1664525 + 1013904223
		b[i] = byte(seed>>16%255) + 1
	}
	return b
}

// rows answers so many rows of so many bytes.
func rows(many, width int, seed uint32) [][]byte {
	all := make([][]byte, many)
	for i := range all {
		all[i] = text(width, seed+uint32(i)*7919)
	}
	return all
}

// sum is the exclusive or of two rows of one length.
func sum(a, b []byte) []byte {
	row := bytes.Clone(a)
	for i, x := range b {
		row[i] ^= x
	}
	return row
}

// with answers rows of which row i is another one.
func with(list [][]byte, i int, row []byte) [][]byte {
	all := clone(list)
	all[i] = bytes.Clone(row)
	return all
}

// clone answers a copy, with its own memory. What is nil stays so.
func clone(a [][]byte) [][]byte {
	all := make([][]byte, len(a))
	for i, row := range a {
		all[i] = bytes.Clone(row)
	}
	return all
}

// whole answers what a coder makes of some data: n rows that hold.
func whole(t *testing.T, s size, width int, seed uint32) [][]byte {
	t.Helper()
	all, e := coder(t, s).All(rows(s.k, width, seed))
	if e != api.OK || len(all) != s.n() {
		t.Fatalf("%v: All answers %d rows, %d", s, len(all), e)
	}
	return all
}

// numbers answers those from a on that are below b.
func numbers(a, b int) []int {
	var all []int
	for i := a; i < b; i++ {
		all = append(all, i)
	}
	return all
}

// strange are numbers that no data row has.
func strange(s size) []int {
	return []int{-1, -2, -s.k, -s.n(), s.k, s.k + 1, s.n() - 1, s.n(), s.n() + 1, 254, 255, 256, 256 + s.k - 1, 512, 1 << 16, 1 << 32, 1<<32 - 1, math.MaxInt, math.MinInt, math.MinInt + 1}
}

// counts are how many rows there may be instead of so many.
func counts(many int) []int {
	var all []int
	for _, other := range []int{0, 1, many - 2, many - 1, many + 1, many + 2, 2 * many, many + 256, 300} {
		if other >= 0 && other != many {
			all = append(all, other)
		}
	}
	return all
}

// same tells whether two lists of rows are the same.
func same(a, b [][]byte) bool { return slices.EqualFunc(a, b, bytes.Equal) }

// brief answers what is told of rows: how many there are, and the beginnings of the first ones.
func brief(list [][]byte) string {
	told := fmt.Sprint(len(list), " rows:")
	for _, row := range list[:min(len(list), 8)] {
		told += fmt.Sprint(" ", len(row), " bytes ", row[:min(len(row), 6)])
	}
	return told
}

// are tells what goes wrong with an answer that is to be rows.
func are(t *testing.T, name string, got [][]byte, e api.Errno, want [][]byte) {
	t.Helper()
	if e != api.OK || !same(got, want) {
		t.Errorf("%s = %s, %d, want %s", name, brief(got), e, brief(want))
	}
}

// fail tells what goes wrong with an answer that is to be an error.
func fail(t *testing.T, name string, got [][]byte, e, want api.Errno) {
	t.Helper()
	if e != want || len(got) != 0 {
		t.Errorf("%s = %s, %d, want none, %d", name, brief(got), e, want)
	}
}

// areOff tells what goes wrong with Off and Holds of rows of which these are to be off.
func areOff(t *testing.T, name string, c *code.Coder, shards [][]byte, want []int) {
	t.Helper()
	off, e := delta.Off(c, shards)
	if e != api.OK || !slices.Equal(off, want) {
		t.Errorf("%s: Off = %v, %d, want %v", name, off, e, want)
	}
	if holds := delta.Holds(c, shards); holds != (len(want) == 0) {
		t.Errorf("%s: Holds = %v, and off are %v", name, holds, want)
	}
}

// offFails tells what goes wrong with Off and Holds of rows that are to be refused.
func offFails(t *testing.T, name string, c *code.Coder, shards [][]byte, want api.Errno) {
	t.Helper()
	off, e := delta.Off(c, shards)
	if e != want || len(off) != 0 {
		t.Errorf("%s: Off = %v, %d, want none, %d", name, off, e, want)
	}
	if delta.Holds(c, shards) {
		t.Errorf("%s: Holds", name)
	}
}

// The example

func TestExample(t *testing.T) {
	c := coder(t, size{1, 1})
	got, e := delta.Update(c, 0, []byte{5}, []byte{6}, [][]byte{{5}})
	are(t, "Update", got, e, [][]byte{{6}})
	got, e = delta.Spread(c, 0, []byte{5 ^ 6})
	are(t, "Spread", got, e, [][]byte{{3}, {3}})
	areOff(t, "ahead", c, [][]byte{{5}, {5}}, nil)
	areOff(t, "behind", c, [][]byte{{6}, {6}}, nil)
	areOff(t, "between", c, [][]byte{{6}, {5}}, []int{1})
}

func TestKnownRows(t *testing.T) {
	// The factors of rows 2 and 3 are 142, 244 and 244, 142 (P4.3).
	c := coder(t, size{2, 2})
	got, e := delta.Spread(c, 0, []byte{1, 0, 2})
	are(t, "Spread of row 0", got, e, [][]byte{{1, 0, 2}, {0, 0, 0}, {142, 0, 1}, {244, 0, 245}})
	got, e = delta.Spread(c, 1, []byte{1, 0, 2})
	are(t, "Spread of row 1", got, e, [][]byte{{0, 0, 0}, {1, 0, 2}, {244, 0, 245}, {142, 0, 1}})
	got, e = delta.Update(c, 1, []byte{7, 7}, []byte{6, 5}, [][]byte{{0, 9}, {1, 1}})
	are(t, "Update of row 1", got, e, [][]byte{{244, 9 ^ 245}, {1 ^ 142, 0}})
	areOff(t, "rows that hold", c, [][]byte{{1, 0}, {0, 2}, {142, 245}, {244, 1}}, nil)
	areOff(t, "one is off", c, [][]byte{{1, 0}, {0, 2}, {142, 245}, {244, 2}}, []int{3})
	areOff(t, "the other is off", c, [][]byte{{1, 0}, {0, 2}, {143, 245}, {244, 1}}, []int{2})
	areOff(t, "both are off", c, [][]byte{{1, 0}, {0, 2}, {244, 1}, {142, 245}}, []int{2, 3})
}

// P7.1

// changes are what may change in a row, by their names.
func changes() map[string][]byte {
	all := map[string][]byte{
		"nil":           nil,
		"empty":         {},
		"a one":         {1},
		"a nought":      {0},
		"the greatest":  {255},
		"noughts":       make([]byte, 40),
		"noughts amid":  {0, 3, 0, 0, 255, 0},
		"many":          text(44, 1),
		"very many":     text(1000, 2),
		"each byte":     make([]byte, 256),
		"a last one":    append(make([]byte, 20), 1),
		"a cut of more": text(90, 3)[:7],
	}
	for i := range all["each byte"] {
		all["each byte"][i] = byte(i)
	}
	return all
}

// spread is what a change of row j is to change in each shard, byte by byte.
func spread(s size, j int, change []byte) [][]byte {
	f, all := field.New(), make([][]byte, s.n())
	for i := range all {
		all[i] = make([]byte, len(change))
		if i == j {
			copy(all[i], change)
		} else if i >= s.k {
			factor, _ := f.Div(1, uint8(i^j))
			for at, x := range change {
				all[i][at] = f.Mul(factor, x)
			}
		}
	}
	return all
}

// someRows are all data rows of a small coder, and some of a great one.
func someRows(s size) []int {
	if s.k <= 5 {
		return numbers(0, s.k)
	}
	return []int{0, 1, s.k / 2, s.k - 2, s.k - 1}
}

func TestSpread(t *testing.T) {
	for _, s := range every() {
		c := coder(t, s)
		for _, j := range someRows(s) {
			for name, change := range changes() {
				got, e := delta.Spread(c, j, change)
				are(t, fmt.Sprint(s, ": Spread of row ", j, ", ", name), got, e, spread(s, j, change))
			}
		}
	}
}

func TestSpreadOfEachRowOfGreatCoders(t *testing.T) {
	for _, s := range []size{{254, 1}, {128, 127}} {
		c := coder(t, s)
		for j := range s.k {
			got, e := delta.Spread(c, j, []byte{1, 128})
			are(t, fmt.Sprint(s, ": Spread of row ", j), got, e, spread(s, j, []byte{1, 128}))
		}
	}
}

func TestSpreadIsTheChangeAlone(t *testing.T) {
	for _, s := range every() {
		c := coder(t, s)
		for _, j := range someRows(s) {
			data := make([][]byte, s.k)
			for i := range data {
				data[i] = make([]byte, 9)
			}
			data[j] = text(9, 4)
			want, e := c.All(data)
			if e != api.OK {
				t.Fatalf("%v: All: %d", s, e)
			}
			got, e := delta.Spread(c, j, data[j])
			are(t, fmt.Sprint(s, ": Spread of row ", j), got, e, want)
		}
	}
}

func TestSpreadOfStrangeNumbers(t *testing.T) {
	for _, s := range every() {
		c := coder(t, s)
		for _, j := range strange(s) {
			if 0 <= j && j < s.k {
				continue // 254 and the like, of a great coder
			}
			for _, change := range [][]byte{nil, {}, {0}, {1}, text(9, 5)} {
				got, e := delta.Spread(c, j, change)
				fail(t, fmt.Sprint(s, ": Spread of row ", j), got, e, api.ErrArg)
			}
		}
	}
}

// P7.2

func TestUpdateIsMadeAnew(t *testing.T) {
	for _, s := range every() {
		c := coder(t, s)
		for _, width := range []int{1, 2, 9, 44, 300} {
			before := whole(t, s, width, 6)
			for _, j := range someRows(s) {
				after := with(before, j, text(width, 7))
				want, e := c.Encode(after[:s.k])
				if e != api.OK {
					t.Fatalf("%v: Encode: %d", s, e)
				}
				got, e := delta.Update(c, j, before[j], after[j], before[s.k:])
				are(t, fmt.Sprint(s, ": Update of row ", j, ", of ", width, " bytes"), got, e, want)
			}
		}
	}
}

func TestUpdateOfSingleBytes(t *testing.T) {
	s := size{3, 2}
	c := coder(t, s)
	before := whole(t, s, 3, 8)
	for j := range s.k {
		for at := range 3 {
			for x := range 256 {
				now := bytes.Clone(before[j])
				now[at] = byte(x)
				want, _ := c.Encode(with(before, j, now)[:s.k])
				got, e := delta.Update(c, j, before[j], now, before[s.k:])
				are(t, fmt.Sprint("byte ", at, " of row ", j, " is ", x), got, e, want)
			}
		}
	}
}

func TestUpdateAddsToWhatThereIs(t *testing.T) {
	// Parity that isn't the data's goes with changes, too, as nobody asks whose it is.
	for _, s := range every() {
		c := coder(t, s)
		parity := rows(s.m, 5, 9)
		for _, j := range someRows(s) {
			old, now := text(5, 10), text(5, 11)
			turned := spread(s, j, sum(old, now))
			want := make([][]byte, s.m)
			for i := range want {
				want[i] = sum(parity[i], turned[s.k+i])
			}
			got, e := delta.Update(c, j, old, now, parity)
			are(t, fmt.Sprint(s, ": Update of row ", j), got, e, want)
		}
	}
}

func TestUpdateOfWideRows(t *testing.T) {
	s := size{2, 2}
	c := coder(t, s)
	before := whole(t, s, 65537, 12)
	now := text(65537, 13)
	want, _ := c.Encode(with(before, 1, now)[:2])
	got, e := delta.Update(c, 1, before[1], now, before[2:])
	are(t, "Update of wide rows", got, e, want)
	shards := append([][]byte{before[0], now}, got...)
	areOff(t, "wide rows", c, shards, nil)
	shards[3][65536] ^= 1
	areOff(t, "the last byte of wide rows", c, shards, []int{3})
}

func TestUpdateOfAlike(t *testing.T) {
	for _, s := range every() {
		c := coder(t, s)
		for _, parity := range [][][]byte{whole(t, s, 6, 14)[s.k:], rows(s.m, 6, 15)} {
			for _, j := range someRows(s) {
				for _, row := range [][]byte{text(6, 16), make([]byte, 6)} {
					got, e := delta.Update(c, j, row, bytes.Clone(row), parity)
					are(t, fmt.Sprint(s, ": Update of row ", j, " by nothing"), got, e, parity)
					got, e = delta.Update(c, j, row, row, parity)
					are(t, fmt.Sprint(s, ": Update of row ", j, " by itself"), got, e, parity)
				}
			}
		}
	}
}

func TestUpdateOfRowsWithoutBytes(t *testing.T) {
	for _, s := range every() {
		c := coder(t, s)
		empty := make([][]byte, s.m)
		for i := range empty {
			if i%2 == 0 {
				empty[i] = []byte{}
			}
		}
		for _, j := range someRows(s) {
			for _, parity := range [][][]byte{make([][]byte, s.m), empty} {
				got, e := delta.Update(c, j, nil, []byte{}, parity)
				are(t, fmt.Sprint(s, ": Update of row ", j), got, e, make([][]byte, s.m))
				got, e = delta.Update(c, j, []byte{}, nil, parity)
				are(t, fmt.Sprint(s, ": Update of row ", j), got, e, make([][]byte, s.m))
			}
		}
		updateFails(t, fmt.Sprint(s, ": parity alone has bytes"), c, 0, nil, nil, rows(s.m, 1, 17))
		updateFails(t, fmt.Sprint(s, ": parity alone has none"), c, 0, []byte{1}, []byte{2}, make([][]byte, s.m))
	}
}

// updateFails tells what goes wrong with an Update that is to be refused.
func updateFails(t *testing.T, name string, c *code.Coder, j int, old, now []byte, parity [][]byte) {
	t.Helper()
	got, e := delta.Update(c, j, old, now, parity)
	fail(t, name+": Update", got, e, api.ErrArg)
}

func TestUpdateOfUnlikeLengths(t *testing.T) {
	for _, s := range every() {
		c := coder(t, s)
		parity := rows(s.m, 4, 18)
		for _, pair := range [][2]int{{3, 4}, {4, 3}, {5, 4}, {4, 5}, {0, 4}, {4, 0}, {4, 4 + 256}, {4 + 256, 4}, {1, 2}, {0, 1}} {
			old, now := text(pair[0], 19), text(pair[1], 20)
			updateFails(t, fmt.Sprint(s, ", ", pair, " bytes"), c, s.k-1, old, now, parity)
			updateFails(t, fmt.Sprint(s, ", ", pair, " bytes, parity as the old one"), c, 0, old, now, rows(s.m, pair[0], 21))
			updateFails(t, fmt.Sprint(s, ", ", pair, " bytes, parity as the new one"), c, 0, old, now, rows(s.m, pair[1], 22))
		}
	}
}

func TestUpdateOfTooFewAndTooManyRows(t *testing.T) {
	for _, s := range every() {
		c := coder(t, s)
		for _, many := range counts(s.m) {
			for _, width := range []int{0, 1, 4} {
				updateFails(t, fmt.Sprint(s, ", ", many, " rows of ", width), c, 0, text(width, 23), text(width, 24), rows(many, width, 25))
			}
			updateFails(t, fmt.Sprint(s, ", ", many, " nil rows"), c, 0, nil, nil, make([][]byte, many))
		}
		updateFails(t, fmt.Sprint(s, ", no rows"), c, 0, text(4, 23), text(4, 24), nil)
	}
}

func TestUpdateOfUnlikeRows(t *testing.T) {
	for _, s := range every() {
		c := coder(t, s)
		old, now, parity := text(4, 26), text(4, 27), rows(s.m, 4, 28)
		for _, width := range []int{0, 1, 3, 5, 8, 4 + 256} {
			updateFails(t, fmt.Sprint(s, ", rows of ", width), c, 0, old, now, rows(s.m, width, 29))
			for _, i := range []int{0, s.m / 2, s.m - 1} {
				updateFails(t, fmt.Sprint(s, ", row ", i, " of ", width), c, s.k-1, old, now, with(parity, i, text(width, 30)))
			}
		}
		updateFails(t, fmt.Sprint(s, ", a nil row"), c, 0, old, now, with(parity, s.m-1, nil))
	}
}

func TestUpdateOfStrangeNumbers(t *testing.T) {
	for _, s := range every() {
		c := coder(t, s)
		for _, j := range strange(s) {
			if 0 <= j && j < s.k {
				continue // 254 and the like, of a great coder
			}
			updateFails(t, fmt.Sprint(s, ", row ", j), c, j, text(4, 31), text(4, 32), rows(s.m, 4, 33))
			updateFails(t, fmt.Sprint(s, ", row ", j, ", alike"), c, j, []byte{1}, []byte{1}, rows(s.m, 1, 33))
			updateFails(t, fmt.Sprint(s, ", row ", j, ", no bytes"), c, j, nil, nil, make([][]byte, s.m))
			updateFails(t, fmt.Sprint(s, ", row ", j, ", all is wrong"), c, j, []byte{1}, nil, rows(s.m+1, 4, 33))
		}
	}
}

// P7.3

func TestOffOfRowsThatHold(t *testing.T) {
	for _, s := range every() {
		c := coder(t, s)
		for _, width := range []int{0, 1, 2, 9, 44, 300} {
			areOff(t, fmt.Sprint(s, ", ", width, " bytes"), c, whole(t, s, width, 34), nil)
		}
		noughts := make([][]byte, s.n())
		for i := range noughts {
			noughts[i] = make([]byte, 7)
		}
		areOff(t, fmt.Sprint(s, ", noughts"), c, noughts, nil)
	}
}

// places are where a row of 9 bytes is changed.
func places() []int { return []int{0, 4, 8} }

func TestOffOfOneRowOfData(t *testing.T) {
	for _, s := range every() {
		c, shards := coder(t, s), whole(t, s, 9, 35)
		for _, j := range someRows(s) {
			for _, at := range places() {
				for _, by := range []byte{1, 2, 128, 255} {
					row := bytes.Clone(shards[j])
					row[at] ^= by
					areOff(t, fmt.Sprint(s, ", byte ", at, " of row ", j), c, with(shards, j, row), numbers(s.k, s.n()))
				}
			}
			areOff(t, fmt.Sprint(s, ", all of row ", j), c, with(shards, j, sum(shards[j], text(9, 36))), numbers(s.k, s.n()))
		}
	}
}

func TestOffOfOneRowOfParity(t *testing.T) {
	for _, s := range every() {
		c, shards := coder(t, s), whole(t, s, 9, 37)
		for i := s.k; i < s.n(); i++ {
			for _, at := range places() {
				row := bytes.Clone(shards[i])
				row[at] ^= 1 << (i % 8)
				areOff(t, fmt.Sprint(s, ", byte ", at, " of row ", i), c, with(shards, i, row), []int{i})
			}
			areOff(t, fmt.Sprint(s, ", all of row ", i), c, with(shards, i, sum(shards[i], text(9, 38))), []int{i})
		}
	}
}

func TestOffOfSomeRowsOfParity(t *testing.T) {
	for _, s := range small() {
		c, shards := coder(t, s), whole(t, s, 5, 39)
		for bits := range 1 << s.m {
			turned, want := clone(shards), []int(nil)
			for i := range s.m {
				if bits>>i&1 == 1 {
					turned[s.k+i][i] ^= byte(i + 1)
					want = append(want, s.k+i)
				}
			}
			areOff(t, fmt.Sprint(s, ", rows ", want), c, turned, want)
		}
	}
	s := size{127, 128}
	c, shards := coder(t, s), whole(t, s, 5, 40)
	var odd []int
	for i := s.k; i < s.n(); i += 2 {
		shards[i][i%5] ^= 4
		odd = append(odd, i)
	}
	areOff(t, "every second row", c, shards, odd)
}

func TestOffOfRowsOfNobody(t *testing.T) {
	for _, s := range every() {
		c := coder(t, s)
		for seed := range uint32(20) {
			for _, width := range []int{1, 5} {
				shards := rows(s.n(), width, 100+seed)
				right, e := c.Encode(shards[:s.k])
				if e != api.OK {
					t.Fatalf("%v: Encode: %d", s, e)
				}
				var want []int
				for i, row := range right {
					if !bytes.Equal(row, shards[s.k+i]) {
						want = append(want, s.k+i)
					}
				}
				areOff(t, fmt.Sprint(s, ", rows of nobody ", seed), c, shards, want)
			}
		}
	}
}

func TestOffOfSwappedRows(t *testing.T) {
	// Row 3 is row 2 and others, each times its factor, and that of row 2 is 1: so it is right still when both are swapped.
	s := size{3, 3}
	c, shards := coder(t, s), whole(t, s, 8, 41)
	for _, x := range []struct {
		a, b int
		want []int
	}{{0, 1, []int{3, 4, 5}}, {1, 2, []int{3, 4, 5}}, {3, 4, []int{3, 4}}, {3, 5, []int{3, 5}}, {4, 5, []int{4, 5}}, {2, 3, []int{4, 5}}} {
		turned := clone(shards)
		turned[x.a], turned[x.b] = turned[x.b], turned[x.a]
		areOff(t, fmt.Sprint("rows ", x.a, " and ", x.b, " are swapped"), c, turned, x.want)
	}
}

func TestOffOfTooFewAndTooManyRows(t *testing.T) {
	for _, s := range every() {
		c := coder(t, s)
		for _, many := range append(counts(s.n()), s.k, s.m) {
			if many == s.n() {
				continue
			}
			for _, width := range []int{0, 1, 4} {
				offFails(t, fmt.Sprint(s, ", ", many, " rows of ", width), c, rows(many, width, 42), api.ErrArg)
			}
			offFails(t, fmt.Sprint(s, ", ", many, " nil rows"), c, make([][]byte, many), api.ErrArg)
		}
		offFails(t, fmt.Sprint(s, ", nil"), c, nil, api.ErrArg)
		shards := whole(t, s, 4, 43)
		offFails(t, fmt.Sprint(s, ", the last is behind the end"), c, shards[:s.n()-1], api.ErrArg)
		offFails(t, fmt.Sprint(s, ", a nil row behind all"), c, append(shards, nil), api.ErrArg)
	}
}

func TestOffOfUnlikeRows(t *testing.T) {
	for _, s := range every() {
		c, shards := coder(t, s), whole(t, s, 4, 44)
		for _, i := range []int{0, s.k / 2, s.k - 1, s.k, s.n() - 1} {
			for _, width := range []int{1, 3, 5, 8, 4 + 256} {
				offFails(t, fmt.Sprint(s, ", row ", i, " of ", width), c, with(shards, i, text(width, 45)), api.ErrArg)
			}
			offFails(t, fmt.Sprint(s, ", row ", i, " is nil"), c, with(shards, i, nil), api.ErrArg)
			offFails(t, fmt.Sprint(s, ", row ", i, " is empty"), c, with(shards, i, []byte{}), api.ErrArg)
			offFails(t, fmt.Sprint(s, ", row ", i, " alone has bytes"), c, with(make([][]byte, s.n()), i, []byte{0}), api.ErrArg)
		}
		offFails(t, fmt.Sprint(s, ", the parity is longer"), c, append(rows(s.k, 4, 46), rows(s.m, 5, 46)...), api.ErrArg)
		offFails(t, fmt.Sprint(s, ", the parity is shorter"), c, append(rows(s.k, 4, 46), rows(s.m, 3, 46)...), api.ErrArg)
	}
}

func TestOffOfRowsWithoutBytes(t *testing.T) {
	for _, s := range every() {
		c := coder(t, s)
		empty, mixed := make([][]byte, s.n()), make([][]byte, s.n())
		for i := range empty {
			empty[i] = []byte{}
			if i%2 == 1 {
				mixed[i] = []byte{}
			}
		}
		areOff(t, fmt.Sprint(s, ", nil rows"), c, make([][]byte, s.n()), nil)
		areOff(t, fmt.Sprint(s, ", empty rows"), c, empty, nil)
		areOff(t, fmt.Sprint(s, ", nil and empty rows"), c, mixed, nil)
	}
}

// P7.4

func TestChangesInAChain(t *testing.T) {
	for _, s := range every() {
		c, shards := coder(t, s), whole(t, s, 6, 47)
		for step := range 12 {
			j, now := step*5%s.k, text(6, 48+uint32(step))
			parity, e := delta.Update(c, j, shards[j], now, shards[s.k:])
			if e != api.OK || len(parity) != s.m {
				t.Fatalf("%v: step %d: Update = %s, %d", s, step, brief(parity), e)
			}
			shards = append(with(shards, j, now)[:s.k], parity...)
			want, e := c.All(shards[:s.k])
			are(t, fmt.Sprint(s, ", step ", step, ": All"), want, e, shards)
			areOff(t, fmt.Sprint(s, ", step ", step), c, shards, nil)
		}
	}
}

func TestRowsOfDataOneByOne(t *testing.T) {
	// Parity of noughts, that goes with each row of the data, is the data's.
	for _, s := range every() {
		c, data := coder(t, s), rows(s.k, 4, 60)
		parity := make([][]byte, s.m)
		for i := range parity {
			parity[i] = make([]byte, 4)
		}
		for j, row := range data {
			var e api.Errno
			parity, e = delta.Update(c, j, make([]byte, 4), row, parity)
			if e != api.OK {
				t.Fatalf("%v: Update of row %d: %d", s, j, e)
			}
		}
		want, e := c.Encode(data)
		are(t, fmt.Sprint(s, ": Encode"), want, e, parity)
	}
}

func TestSpreadAddedHolds(t *testing.T) {
	for _, s := range every() {
		c, shards := coder(t, s), whole(t, s, 6, 61)
		for _, j := range someRows(s) {
			turned, e := delta.Spread(c, j, text(6, 62))
			if e != api.OK || len(turned) != s.n() {
				t.Fatalf("%v: Spread of row %d = %s, %d", s, j, brief(turned), e)
			}
			areOff(t, fmt.Sprint(s, ", what changes by row ", j), c, turned, nil)
			for i, row := range turned {
				turned[i] = sum(row, shards[i])
			}
			areOff(t, fmt.Sprint(s, ", what changes by row ", j, " is added"), c, turned, nil)
		}
	}
}

func TestChangeTakenBack(t *testing.T) {
	for _, s := range every() {
		c, shards := coder(t, s), whole(t, s, 6, 63)
		for _, parity := range [][][]byte{shards[s.k:], rows(s.m, 6, 64)} {
			for _, j := range someRows(s) {
				now := text(6, 65)
				there, e := delta.Update(c, j, shards[j], now, parity)
				if e != api.OK || same(there, parity) {
					t.Fatalf("%v: Update of row %d = %s, %d", s, j, brief(there), e)
				}
				back, e := delta.Update(c, j, now, shards[j], there)
				are(t, fmt.Sprint(s, ": Update of row ", j, ", taken back"), back, e, parity)
				back, e = delta.Update(c, j, shards[j], now, there)
				are(t, fmt.Sprint(s, ": Update of row ", j, ", once more"), back, e, parity)
			}
		}
		for i := range shards {
			row := bytes.Clone(shards[i])
			shards[i][3] ^= 77
			if delta.Holds(c, shards) {
				t.Errorf("%v: rows hold of which row %d is changed", s, i)
			}
			shards[i][3] ^= 77
			if !bytes.Equal(shards[i], row) {
				t.Fatalf("%v: row %d was changed", s, i)
			}
		}
		areOff(t, fmt.Sprint(s, ", all is taken back"), c, shards, nil)
	}
}

// A coder that isn't there

// nobodys are coders that nobody made.
func nobodys() map[string]*code.Coder {
	var zero code.Coder
	return map[string]*code.Coder{"nil": nil, "zero": &zero, "new": new(code.Coder), "refused": code.New(field.New(), 0, 1), "of no field": code.New(nil, 2, 1)}
}

func TestNobodysCoder(t *testing.T) {
	for name, c := range nobodys() {
		for _, j := range []int{0, 1, 2, -1, 254, 255, 256, math.MaxInt, math.MinInt} {
			for _, row := range [][]byte{nil, {}, {0}, {1, 2, 3}} {
				got, e := delta.Spread(c, j, row)
				fail(t, fmt.Sprint(name, ": Spread of row ", j), got, e, api.ErrNil)
				for _, now := range [][]byte{nil, {1}, {4, 5, 6}} {
					for _, parity := range [][][]byte{nil, {}, {nil}, {{1}}, {{1, 2, 3}}, {{1}, {2, 3}}, rows(300, 3, 66)} {
						got, e = delta.Update(c, j, row, now, parity)
						fail(t, fmt.Sprint(name, ": Update of row ", j), got, e, api.ErrNil)
					}
				}
			}
		}
		for _, shards := range [][][]byte{nil, {}, {nil}, {{}}, {{1}}, {{1}, {1}}, {nil, nil}, {{0}, {0}, {0}}, {{1}, {2, 3}}, rows(255, 2, 67), rows(300, 2, 67), make([][]byte, 300)} {
			offFails(t, name, c, shards, api.ErrNil)
		}
		if c != nil && *c != (code.Coder{}) {
			t.Errorf("%s: it was changed", name)
		}
	}
}

// R3

// handed is what is handed in to all calls, right or wrong.
type handed struct {
	j        int
	old, now []byte
	parity   [][]byte
	shards   [][]byte
}

// handedIn answers what may be handed in to a coder's calls.
func handedIn(s size) []handed {
	old, now, parity, shards := text(5, 68), text(5, 69), rows(s.m, 5, 70), rows(s.n(), 5, 71)
	return []handed{
		{0, old, now, parity, shards},
		{s.k - 1, old, old, parity, shards},
		{s.k, old, now, parity, shards[1:]},
		{0, old, now[1:], parity, with(shards, s.k, text(4, 72))},
		{0, old, now, with(parity, 0, text(6, 73)), append(shards, text(5, 74))},
		{0, nil, nil, make([][]byte, s.m), make([][]byte, s.n())},
	}
}

// room answers a row with room behind its end.
func room(row []byte) []byte {
	return append(bytes.Clone(row), "what somebody else keeps"...)[:len(row)]
}

// rooms answers rows that have room behind their ends, with a row behind the last.
func rooms(list [][]byte) [][]byte {
	all := make([][]byte, 0, len(list)+1)
	for _, row := range list {
		all = append(all, room(row))
	}
	return append(all, []byte("a row behind the end"))[:len(list)]
}

// roomy answers the same, with room behind all ends.
func (h handed) roomy() handed {
	return handed{h.j, room(h.old), room(h.now), rooms(h.parity), rooms(h.shards)}
}

// lists are all rows that are handed in, with all that is behind their ends.
func (h handed) lists() [][]byte {
	all := [][]byte{h.old, h.now}
	for _, list := range [][][]byte{h.parity, h.shards} {
		all = append(all, list[:cap(list)]...)
	}
	for i, row := range all {
		all[i] = row[:cap(row)]
	}
	return all
}

// call is a call that answers rows.
type call struct {
	name string
	rows func() ([][]byte, api.Errno)
}

// calls are all calls that answer rows.
func (h handed) calls(c *code.Coder) []call {
	return []call{
		{"Spread", func() ([][]byte, api.Errno) { return delta.Spread(c, h.j, h.old) }},
		{"Update", func() ([][]byte, api.Errno) { return delta.Update(c, h.j, h.old, h.now, h.parity) }},
	}
}

func TestNothingIsChanged(t *testing.T) {
	for _, s := range append(small(), size{60, 60}) {
		c := coder(t, s)
		for at, h := range handedIn(s) {
			h = h.roomy()
			kept := clone(h.lists())
			for _, call := range h.calls(c) {
				got, _ := call.rows()
				for i, row := range got {
					row = append(row, "behind"...)
					for at := range row {
						row[at] = ^row[at]
					}
					got[i] = nil
				}
				_ = append(got, []byte("behind"), []byte("all"))
			}
			off, _ := delta.Off(c, h.shards)
			_ = append(off, -1)
			clear(off)
			delta.Holds(c, h.shards)
			if !same(h.lists(), kept) {
				t.Fatalf("%v: %d: what was handed in was changed", s, at)
			}
		}
	}
}

func TestRoomIsNobodys(t *testing.T) {
	for _, s := range append(small(), size{60, 60}) {
		c := coder(t, s)
		for at, h := range handedIn(s) {
			bare, roomy := h.calls(c), h.roomy().calls(c)
			for i := range bare {
				want, refusal := bare[i].rows()
				got, e := roomy[i].rows()
				if e != refusal || !same(got, want) {
					t.Errorf("%v: %d: %s = %s, %d, with room %s, %d", s, at, bare[i].name, brief(want), refusal, brief(got), e)
				}
			}
			want, refusal := delta.Off(c, h.shards)
			got, e := delta.Off(c, h.roomy().shards)
			if e != refusal || !slices.Equal(got, want) {
				t.Errorf("%v: %d: Off = %v, %d, with room %v, %d", s, at, want, refusal, got, e)
			}
		}
	}
}

func TestRowsOfAnAnswerShareNothing(t *testing.T) {
	for _, s := range append(small(), size{60, 60}) {
		c, one := coder(t, s), text(5, 75)
		parity := make([][]byte, s.m)
		for i := range parity {
			parity[i] = one // a row that stands in several places is several rows in the answer
		}
		for _, call := range (handed{0, one, one, parity, nil}).calls(c) {
			got, e := call.rows()
			if e != api.OK {
				t.Fatalf("%v: %s: %d", s, call.name, e)
			}
			want := clone(got)
			for i := range got {
				row := append(got[i], "behind"...)
				for at := range row {
					row[at] ^= 0xff
				}
				for at := range got[i] {
					got[i][at] ^= 0xff
				}
				if !same(got[i+1:], want[i+1:]) {
					t.Fatalf("%v: %s: other rows go with row %d", s, call.name, i)
				}
			}
		}
		if !bytes.Equal(one, text(5, 75)) {
			t.Fatalf("%v: what was handed in goes with the answer", s)
		}
	}
}

func TestAnswersAreNewMemory(t *testing.T) {
	for _, s := range append(small(), size{60, 60}) {
		c := coder(t, s)
		for at, h := range handedIn(s) {
			for _, call := range h.calls(c) {
				first, e := call.rows()
				kept := clone(first)
				second, _ := call.rows()
				for i, row := range second {
					clear(row[:cap(row)])
					second[i] = nil
				}
				third, again := call.rows()
				if !same(first, kept) || e != again || !same(third, kept) {
					t.Errorf("%v: %d: %s = %s, %d, then %s, %d", s, at, call.name, brief(kept), e, brief(third), again)
				}
			}
			first, e := delta.Off(c, h.shards)
			kept := slices.Clone(first)
			second, _ := delta.Off(c, h.shards)
			clear(second[:cap(second)])
			third, again := delta.Off(c, h.shards)
			if !slices.Equal(first, kept) || e != again || !slices.Equal(third, kept) {
				t.Errorf("%v: %d: Off = %v, %d, then %v, %d", s, at, kept, e, third, again)
			}
		}
	}
}

func TestWhatWasHandedInIsNotKept(t *testing.T) {
	for _, s := range append(small(), size{60, 60}) {
		c := coder(t, s)
		for at, h := range handedIn(s) {
			h = h.roomy()
			var answers, kept [][][]byte
			for _, call := range h.calls(c) {
				got, _ := call.rows()
				answers, kept = append(answers, got), append(kept, clone(got))
			}
			for _, row := range h.lists() {
				clear(row)
			}
			clear(h.parity)
			clear(h.shards)
			for i := range answers {
				if !same(answers[i], kept[i]) {
					t.Errorf("%v: %d: an answer goes with what was handed in", s, at)
				}
			}
		}
	}
}

// R4

func TestCodersAnswerTheSame(t *testing.T) {
	f := field.New()
	for _, s := range small() {
		one, other := code.New(f, s.k, s.m), code.New(field.New(), s.k, s.m)
		beside := code.New(f, s.m, s.k) // of other numbers, with the same field: it changes nothing for the others
		for at, h := range handedIn(s) {
			first, again := h.calls(one), h.calls(other)
			for i := range first {
				want, refusal := first[i].rows()
				h.calls(beside)[i].rows()
				for _, call := range []call{first[i], again[i]} {
					got, e := call.rows()
					if e != refusal || !same(got, want) {
						t.Errorf("%v: %d: %s = %s, %d, and once more %s, %d", s, at, call.name, brief(want), refusal, brief(got), e)
					}
				}
			}
		}
	}
}
