package locate_test

import (
	"bytes"
	"fmt"
	"math"
	"slices"
	"testing"

	"ciborium/api"
	"ciborium/code"
	"ciborium/delta"
	"ciborium/field"
	"ciborium/locate"
)

// size is how many rows of data there are, and how many of parity.
type size struct{ k, m int }

func (s size) n() int { return s.k + s.m }

// borne is how many wrong rows may be looked for.
func (s size) borne() int { return min(s.m/2, 2) }

// sizes are those of all coders of at most so many rows.
func sizes(most int) []size {
	var all []size
	for k := 1; k < most; k++ {
		for m := 1; k+m <= most; m++ {
			all = append(all, size{k, m})
		}
	}
	return all
}

// small are the sizes of all coders of at most 12 rows.
func small() []size { return sizes(12) }

// great are sizes of coders of at most 16 rows.
func great() []size {
	return []size{{1, 15}, {15, 1}, {8, 8}, {12, 4}, {4, 12}, {14, 2}, {13, 3}, {11, 5}, {10, 4}, {7, 7}}
}

// coder answers a coder that there must be.
func coder(t *testing.T, s size) *code.Coder {
	t.Helper()
	c := code.New(field.New(), s.k, s.m)
	if c == nil {
		t.Fatalf("no coder of %d and %d", s.k, s.m)
	}
	return c
}

// text answers so many bytes, the same ones each time.
func text(width int, seed uint32) []byte {
	b := make([]byte, width)
	for i := range b {
		seed = seed*1664525 + 1013904223
		b[i] = byte(seed >> 16)
	}
	return b
}

// rows answers so many rows of so many bytes.
func rows(many, width int, seed uint32) [][]byte {
	all := make([][]byte, many)
	for i := range all {
		all[i] = text(width, seed+uint32(i)*7919)
	}
	return all
}

// whole answers what a coder makes of data.
func whole(t *testing.T, c *code.Coder, data [][]byte) [][]byte {
	t.Helper()
	all, e := c.All(data)
	if e != api.OK {
		t.Fatalf("All of %d rows: %d", len(data), e)
	}
	return all
}

// clone answers a copy, with its own memory. What is nil stays so.
func clone(a [][]byte) [][]byte {
	all := make([][]byte, len(a))
	for i, row := range a {
		all[i] = bytes.Clone(row)
	}
	return all
}

// same tells whether two lists of rows are the same.
func same(a, b [][]byte) bool { return slices.EqualFunc(a, b, bytes.Equal) }

// turn is how a row may be made a wrong one.
type turn struct {
	name string
	of   func(row []byte)
}

// turns are ways to make a row of at least one byte a wrong one.
func turns() []turn {
	return []turn{
		{"its first byte", func(row []byte) { row[0] ^= 1 }},
		{"its last byte", func(row []byte) { row[len(row)-1] ^= 0x80 }},
		{"all of its bytes", func(row []byte) {
			for i := range row {
				row[i] ^= byte(i%255) + 1
			}
		}},
	}
}

// wrong answers rows of which those of a set were turned.
func wrong(list [][]byte, set []int, how turn) [][]byte {
	all := clone(list)
	for _, i := range set {
		how.of(all[i])
	}
	return all
}

// eachAtItsOwn answers rows of which those of a set have a wrong byte each, at a place of its own.
func eachAtItsOwn(list [][]byte, set []int) [][]byte {
	all := clone(list)
	for at, i := range set {
		all[i][at] ^= byte(at + 3)
	}
	return all
}

// sets answers all sets of so many of the numbers below n, rising.
func sets(n, many int) [][]int {
	if many == 0 {
		return [][]int{nil}
	}
	var all [][]int
	for last := range n {
		for _, set := range sets(last, many-1) {
			all = append(all, append(set, last))
		}
	}
	return all
}

// few answers all of a very small coder's sets, and some of another one's.
func few(s size, all [][]int) [][]int {
	if s.n() <= 8 {
		return all
	}
	var some [][]int
	for at := 0; at < len(all); at += 1 + len(all)/40 {
		some = append(some, all[at])
	}
	return append(some, all[len(all)-1])
}

// unlike answers the numbers of the rows in which two lists of as many rows are unlike.
func unlike(a, b [][]byte) []int {
	var numbers []int
	for i := range a {
		if !bytes.Equal(a[i], b[i]) {
			numbers = append(numbers, i)
		}
	}
	return numbers
}

// brief answers what is told of rows: how many there are, and their beginnings.
func brief(list [][]byte) string {
	told := fmt.Sprint(len(list), " rows:")
	for _, row := range list[:min(len(list), 16)] {
		told += fmt.Sprint(" ", len(row), " bytes ", row[:min(len(row), 6)])
	}
	return told
}

// finds tells what goes wrong where Find is to answer rows, and that these of them were wrong.
func finds(t *testing.T, name string, c *code.Coder, shards [][]byte, most int, want [][]byte, numbers []int) {
	t.Helper()
	got, which, e := locate.Find(c, shards, most)
	if e != api.OK || !same(got, want) || !slices.Equal(which, numbers) {
		t.Errorf("%s: Find of at most %d in %s = %s, %v, %d, want %s, %v", name, most, brief(shards), brief(got), which, e, brief(want), numbers)
	}
	if count := locate.Close(c, shards, most); count != len(numbers) {
		t.Errorf("%s: Close of at most %d in %s = %d, want %d", name, most, brief(shards), count, len(numbers))
	}
}

// fails tells what goes wrong where Find is to answer an error.
func fails(t *testing.T, name string, c *code.Coder, shards [][]byte, most int, refusal api.Errno) {
	t.Helper()
	got, which, e := locate.Find(c, shards, most)
	if e != refusal || len(got) != 0 || len(which) != 0 {
		t.Errorf("%s: Find of at most %d in %s = %s, %v, %d, want none, %d", name, most, brief(shards), brief(got), which, e, refusal)
	}
	if count := locate.Close(c, shards, most); count != -1 {
		t.Errorf("%s: Close of at most %d in %s = %d, want -1", name, most, brief(shards), count)
	}
}

// honest tells what goes wrong with what Find answers of rows that fit, whatever they are. It answers whether there were rows that hold.
func honest(t *testing.T, name string, c *code.Coder, shards [][]byte, most int) bool {
	t.Helper()
	got, which, e := locate.Find(c, shards, most)
	if e == api.ErrMany && len(got) == 0 && len(which) == 0 {
		return false
	}
	if e != api.OK || !delta.Holds(c, got) || len(which) > most || !slices.Equal(which, unlike(got, shards)) {
		t.Errorf("%s: Find of at most %d in %s = %s, %v, %d", name, most, brief(shards), brief(got), which, e)
		return true
	}
	finds(t, name, c, shards, most, got, which)
	return true
}

// The example

func TestExample(t *testing.T) {
	c := coder(t, size{1, 2})
	right := [][]byte{{5}, {5}, {140}}
	finds(t, "the example", c, [][]byte{{5}, {7}, {140}}, 1, right, []int{1})
	finds(t, "the first is wrong", c, [][]byte{{7}, {5}, {140}}, 1, right, []int{0})
	finds(t, "the last is wrong", c, [][]byte{{5}, {5}, {5}}, 1, right, []int{2})
	finds(t, "none is wrong", c, right, 1, right, nil)
	finds(t, "none is wrong, and none looked for", c, right, 0, right, nil)
	fails(t, "none is looked for", c, [][]byte{{5}, {7}, {140}}, 0, api.ErrMany)
	fails(t, "all are unlike", c, [][]byte{{5}, {7}, {9}}, 1, api.ErrMany)
	fails(t, "more than may be", c, [][]byte{{5}, {7}, {140}}, 2, api.ErrArg)
}

// P8.1

// differs tells what goes wrong with the numbers of the rows in which two lists are unlike, either way round.
func differs(t *testing.T, name string, a, b [][]byte, want ...int) {
	t.Helper()
	for _, pair := range [][2][][]byte{{a, b}, {b, a}} {
		if got := locate.Differ(pair[0], pair[1]); !slices.Equal(got, want) {
			t.Errorf("%s: Differ of %s and %s = %v, want %v", name, brief(pair[0]), brief(pair[1]), got, want)
		}
	}
}

func TestDifferOfLists(t *testing.T) {
	list := [][]byte{{1, 2}, {3, 4}, {5, 6}, {7, 8}}
	differs(t, "itself", list, list)
	differs(t, "alike", list, clone(list))
	differs(t, "none is alike", list, [][]byte{{2, 1}, {4, 3}, {6, 5}, {8, 7}}, 0, 1, 2, 3)
	differs(t, "the first", list, [][]byte{{0, 2}, {3, 4}, {5, 6}, {7, 8}}, 0)
	differs(t, "the last", list, [][]byte{{1, 2}, {3, 4}, {5, 6}, {7, 0}}, 3)
	differs(t, "some", list, [][]byte{{1, 2}, {3, 3}, {5, 6}, {8, 8}}, 1, 3)
	differs(t, "in other places", list, [][]byte{{3, 4}, {1, 2}, {5, 6}, {7, 8}}, 0, 1)
	differs(t, "shifted", list, list[1:], 0, 1, 2, 3)
}

func TestDifferOfUnlikeLengths(t *testing.T) {
	list := [][]byte{{1}, {2}, {3}}
	for many := range 4 {
		differs(t, "as far as it goes", list, list[:many], []int{0, 1, 2}[many:]...)
		differs(t, "others behind it", list, append(clone(list[:many]), []byte{9}), []int{0, 1, 2, 3}[many:max(3, many+1)]...)
	}
	differs(t, "a row that is unlike, and no row", list, [][]byte{{1}, {0}}, 1, 2)
	differs(t, "a row without bytes, and no row", append(clone(list), nil, []byte{}), list, 3, 4)
	differs(t, "noughts, and no row", [][]byte{{0}, {0, 0}}, nil, 0, 1)
}

func TestDifferOfNone(t *testing.T) {
	differs(t, "nil", nil, nil)
	differs(t, "nil and empty", nil, [][]byte{})
	differs(t, "empty", [][]byte{}, [][]byte{})
	differs(t, "none, and rows", nil, [][]byte{nil, {1}, {}}, 0, 1, 2)
	differs(t, "empty, and rows", [][]byte{}, [][]byte{{1}}, 0)
}

func TestDifferOfRowsWithoutBytes(t *testing.T) {
	differs(t, "nil and empty rows", [][]byte{nil, {}, nil, {}}, [][]byte{{}, nil, nil, {}})
	differs(t, "nil and empty rows, beside others", [][]byte{nil, {1}, {}}, [][]byte{{}, {2}, nil}, 1)
	differs(t, "no byte, and a nought", [][]byte{nil, {}}, [][]byte{{0}, {0}}, 0, 1)
}

func TestDifferOfRowsOfUnlikeLengths(t *testing.T) {
	differs(t, "a byte more", [][]byte{{1, 2}, {1, 2}}, [][]byte{{1, 2, 3}, {1}}, 0, 1)
	differs(t, "a nought more", [][]byte{{1, 2}, {0}}, [][]byte{{1, 2, 0}, {0}}, 0)
	differs(t, "lengths that aren't each other's", [][]byte{{1}, {2, 3}, {4, 5, 6}}, [][]byte{{1}, {2, 3}, {4, 5}}, 2)
}

func TestDifferOfOneByte(t *testing.T) {
	list := rows(5, 300, 1)
	for i := range list {
		for _, at := range []int{0, 1, 149, 298, 299} {
			for _, mask := range []byte{1, 0x80, 0xff} {
				other := clone(list)
				other[i][at] ^= mask
				differs(t, fmt.Sprint("byte ", at), list, other, i)
			}
		}
	}
}

func TestDifferOfManyRows(t *testing.T) {
	list, other := rows(1000, 3, 2), rows(1000, 3, 2)
	var want []int
	for i := 0; i < 1000; i += 7 {
		other[i][2]++
		want = append(want, i)
	}
	differs(t, "each seventh", list, other, want...)
}

// P8.2 and P8.3: what is found

// findsAll holds Find and Close of all sets of wrong rows that a coder bears.
func findsAll(t *testing.T, s size, width int, hows []turn) {
	t.Helper()
	c := coder(t, s)
	right := whole(t, c, rows(s.k, width, uint32(s.k*16+s.m)))
	for most := range s.borne() + 1 {
		for many := range most + 1 {
			for _, set := range sets(s.n(), many) {
				for _, how := range hows {
					name := fmt.Sprint(s, ": ", how.name, " of ", set)
					finds(t, name, c, wrong(right, set, how), most, right, set)
				}
			}
		}
	}
}

func TestFindOfSmallCoders(t *testing.T) {
	for _, s := range small() {
		findsAll(t, s, 1, turns()[2:])
		findsAll(t, s, 7, turns())
	}
}

func TestFindOfGreatCoders(t *testing.T) {
	for _, s := range great() {
		findsAll(t, s, 1, turns()[:1])
		findsAll(t, s, 5, turns()[1:])
	}
}

func TestFindOfEachAtItsOwn(t *testing.T) {
	// At no place more than one row is wrong: it is the whole that tells how many are.
	for _, s := range append(small(), great()...) {
		c := coder(t, s)
		right := whole(t, c, rows(s.k, 9, 3))
		for many := 1; many <= s.borne(); many++ {
			for _, set := range few(s, sets(s.n(), many)) {
				finds(t, fmt.Sprint(s, ": ", set), c, eachAtItsOwn(right, set), many, right, set)
			}
		}
	}
}

func TestFindOfEachByte(t *testing.T) {
	s := size{2, 2}
	c := coder(t, s)
	right := whole(t, c, rows(s.k, 3, 4))
	for i := range s.n() {
		for at := range 3 {
			for mask := 1; mask < 256; mask++ {
				shards := clone(right)
				shards[i][at] ^= byte(mask)
				finds(t, fmt.Sprint("row ", i, ", byte ", at, " by ", mask), c, shards, 1, right, []int{i})
			}
		}
	}
}

func TestFindOfLongRows(t *testing.T) {
	s := size{5, 4}
	c := coder(t, s)
	for _, width := range []int{2, 3, 44, 64, 255, 256, 257, 1000, 65537} {
		right := whole(t, c, rows(s.k, width, 5))
		finds(t, "none", c, right, 2, right, nil)
		for _, how := range turns() {
			for _, set := range [][]int{{0}, {8}, {0, 1}, {4, 5}, {7, 8}} {
				finds(t, fmt.Sprint(width, " bytes, ", how.name, " of ", set), c, wrong(right, set, how), 2, right, set)
			}
		}
		shards := clone(right)
		shards[2][width-1] ^= 4
		shards[6][0] ^= 4
		finds(t, fmt.Sprint(width, " bytes, at both ends"), c, shards, 2, right, []int{2, 6})
	}
}

func TestFindOfNoughts(t *testing.T) {
	for _, s := range append(small(), great()...) {
		c := coder(t, s)
		right := make([][]byte, s.n())
		for i := range right {
			right[i] = make([]byte, 4)
		}
		for most := range s.borne() + 1 {
			finds(t, "noughts", c, right, most, right, nil)
		}
		for _, set := range few(s, sets(s.n(), s.borne())) {
			finds(t, "noughts", c, wrong(right, set, turns()[2]), s.borne(), right, set)
		}
	}
}

func TestFindOfRowsWithoutBytes(t *testing.T) {
	for _, s := range append(small(), great()...) {
		c := coder(t, s)
		none, empty, mixed := make([][]byte, s.n()), make([][]byte, s.n()), make([][]byte, s.n())
		for i := range empty {
			empty[i] = []byte{}
			if i%2 == 0 {
				mixed[i] = []byte{1, 2, 3}[:0]
			}
		}
		for most := range s.borne() + 1 {
			for _, shards := range [][][]byte{none, empty, mixed} {
				finds(t, fmt.Sprint(s, ": no bytes"), c, shards, most, none, nil)
			}
		}
	}
}

func TestRowsWithoutBytesAreNotMissing(t *testing.T) {
	// Nobody says which rows are wrong here: one that is short is refused.
	for _, s := range append(small(), great()...) {
		c := coder(t, s)
		right := whole(t, c, rows(s.k, 2, 6))
		for i := range right {
			for _, row := range [][]byte{nil, {}} {
				shards := clone(right)
				shards[i] = row
				for most := range s.borne() + 1 {
					fails(t, fmt.Sprint(s, ": row ", i, " has no bytes"), c, shards, most, api.ErrArg)
				}
			}
		}
	}
}

// What is not found

func TestFindOfNoneThatMayBeWrong(t *testing.T) {
	for _, s := range append(small(), great()...) {
		c := coder(t, s)
		right := whole(t, c, rows(s.k, 3, 7))
		for i := range s.n() {
			for _, how := range turns() {
				fails(t, fmt.Sprint(s, ": ", how.name, " of ", i), c, wrong(right, []int{i}, how), 0, api.ErrMany)
			}
		}
	}
}

func TestFindOfOneMore(t *testing.T) {
	for _, s := range append(small(), great()...) {
		c := coder(t, s)
		right := whole(t, c, rows(s.k, 5, 8))
		for most := range s.borne() + 1 {
			for at, set := range few(s, sets(s.n(), most+1)) {
				how := turns()[at%3]
				name := fmt.Sprint(s, ": ", how.name, " of ", set)
				found := honest(t, name, c, wrong(right, set, how), most)
				// Others that hold are at least m + 1 rows from the right ones.
				if found && s.m > 2*most {
					t.Errorf("%s: rows are found, but none are so near", name)
				}
			}
		}
	}
}

func TestFindOfOneMoreEachAtItsOwn(t *testing.T) {
	// At each place the one that is wrong there is told, and no other: of all places these are more than may be.
	for _, s := range append(small(), great()...) {
		c := coder(t, s)
		right := whole(t, c, rows(s.k, 9, 9))
		for most := 1; most <= s.borne(); most++ {
			for _, set := range few(s, sets(s.n(), most+1)) {
				fails(t, fmt.Sprint(s, ": ", set), c, eachAtItsOwn(right, set), most, api.ErrMany)
			}
		}
	}
}

func TestFindOfRowsThatBelongTogetherInNoWay(t *testing.T) {
	for _, s := range append(small(), great()...) {
		c := coder(t, s)
		for most := range s.borne() + 1 {
			all := make([]int, s.n())
			for i := range all {
				all[i] = i
			}
			noughts := make([][]byte, s.n())
			for i := range noughts {
				noughts[i] = make([]byte, s.n())
			}
			if most > 0 {
				fails(t, fmt.Sprint(s, ": all are wrong"), c, eachAtItsOwn(noughts, all), most, api.ErrMany)
			}
			for seed := range uint32(4) {
				// Each place of so many would have to hold with the same few rows left out, which chance never makes.
				fails(t, fmt.Sprint(s, ": any rows"), c, rows(s.n(), 16, 10+seed), most, api.ErrMany)
				honest(t, fmt.Sprint(s, ": any bytes"), c, rows(s.n(), 1, 10+seed), most)
			}
		}
	}
}

// words answers all rows of one byte each that hold, of a coder of few rows of data.
func words(t *testing.T, c *code.Coder) [][][]byte {
	t.Helper()
	var all [][][]byte
	for number := range 1 << (8 * c.K()) {
		data := make([][]byte, c.K())
		for i := range data {
			data[i] = []byte{byte(number >> (8 * i))}
		}
		all = append(all, whole(t, c, data))
	}
	return all
}

// near answers those of some words that are unlike rows of one byte each in at most most of them.
func near(all [][][]byte, shards [][]byte, most int) [][][]byte {
	var found [][][]byte
	for _, word := range all {
		count := 0
		for i := range word {
			if word[i][0] != shards[i][0] {
				count++
			}
		}
		if count <= most {
			found = append(found, word)
		}
	}
	return found
}

func TestFindIsTheNearestOfAll(t *testing.T) {
	// All rows of one byte that hold are gone through one by one, and held against those told.
	for _, s := range []size{{1, 1}, {1, 2}, {1, 3}, {1, 4}, {1, 5}, {1, 15}, {2, 2}, {2, 4}, {2, 5}} {
		c := coder(t, s)
		all := words(t, c)
		for seed := range uint32(40) {
			shards := rows(s.n(), 1, 20+seed)
			if seed%2 == 1 { // near to some that hold
				set := sets(s.n(), min(s.n(), int(seed/2)%5))
				shards = wrong(all[int(seed)*6%256], set[int(seed)%len(set)], turns()[int(seed)%3])
			}
			for most := range s.borne() + 1 {
				name := fmt.Sprint(s, ": bytes ", seed)
				found := near(all, shards, most)
				if len(found) > 1 {
					t.Fatalf("%s: %d words are near", name, len(found))
				}
				if len(found) == 0 {
					fails(t, name, c, shards, most, api.ErrMany)
				} else {
					finds(t, name, c, shards, most, found[0], unlike(shards, found[0]))
				}
			}
		}
	}
}

func TestFindOfOtherWords(t *testing.T) {
	// Of k 1, m 2 rows of three words are near to none; one more wrong than may be is near to another word, of m 2 and most 1.
	c := coder(t, size{1, 2})
	all := words(t, c)
	finds(t, "two of another word", c, [][]byte{{9}, {5}, {140}}, 1, [][]byte{{5}, {5}, {140}}, []int{0})
	finds(t, "two of the first", c, [][]byte{{9}, {9}, {140}}, 1, all[9], []int{2})
	fails(t, "three words", c, [][]byte{{9}, {5}, all[7][2]}, 1, api.ErrMany)
}

// What is refused

func TestFindOfStrangeMost(t *testing.T) {
	for _, s := range append(small(), great()...) {
		c := coder(t, s)
		right := whole(t, c, rows(s.k, 3, 30))
		others := [][][]byte{right, rows(s.n(), 3, 31), make([][]byte, s.n()), nil}
		for _, most := range []int{-1, -2, -3, 3, 4, 5, 7, 16, 255, 256, 257, 1 << 32, 1<<32 + 1, math.MaxInt, math.MaxInt - 1, math.MaxInt/2 + 1, math.MinInt, math.MinInt + 1, math.MinInt / 2, -1 << 32} {
			for _, shards := range others {
				fails(t, fmt.Sprint(s), c, shards, most, api.ErrArg)
			}
		}
		for most := s.borne() + 1; most <= 2; most++ {
			for _, shards := range others {
				fails(t, fmt.Sprint(s, ": twice that is more than m"), c, shards, most, api.ErrArg)
			}
		}
	}
}

func TestFindOfTooManyRowsOfACoder(t *testing.T) {
	for _, s := range []size{{1, 16}, {16, 1}, {13, 4}, {12, 5}, {8, 9}, {20, 20}, {1, 254}, {254, 1}, {127, 128}} {
		c := coder(t, s)
		right := whole(t, c, rows(s.k, 3, 32))
		for _, shards := range [][][]byte{right, wrong(right, []int{0}, turns()[0]), make([][]byte, s.n()), right[:16], nil} {
			for most := -1; most <= 3; most++ {
				fails(t, fmt.Sprint(s), c, shards, most, api.ErrArg)
			}
		}
	}
	for _, s := range []size{{1, 15}, {15, 1}, {12, 4}} { // 16 rows are not too many
		c := coder(t, s)
		right := whole(t, c, rows(s.k, 3, 32))
		finds(t, fmt.Sprint(s), c, right, s.borne(), right, nil)
	}
}

func TestFindOfTooFewAndTooManyRows(t *testing.T) {
	for _, s := range append(small(), great()...) {
		c := coder(t, s)
		right := whole(t, c, rows(s.k, 3, 33))
		long := append(clone(right), rows(300, 3, 34)...)
		for _, many := range []int{0, 1, s.k, s.m, s.n() - 1, s.n() + 1, s.n() + 2, 2 * s.n(), 255, 256, 256 + s.n(), 300} {
			if many == s.n() {
				continue
			}
			for most := range s.borne() + 1 {
				fails(t, fmt.Sprint(s, ": so many rows"), c, long[:many], most, api.ErrArg)
				fails(t, fmt.Sprint(s, ": so many rows without bytes"), c, make([][]byte, many), most, api.ErrArg)
			}
		}
		fails(t, fmt.Sprint(s, ": nil"), c, nil, 0, api.ErrArg)
	}
}

func TestFindOfRowsOfUnlikeLengths(t *testing.T) {
	for _, s := range append(small(), great()...) {
		c := coder(t, s)
		right := whole(t, c, rows(s.k, 3, 35))
		for i := range s.n() {
			for _, width := range []int{1, 2, 4, 5, 259} {
				shards := clone(right)
				shards[i] = append(bytes.Clone(right[i]), make([]byte, 256)...)[:width]
				for most := range s.borne() + 1 {
					fails(t, fmt.Sprint(s, ": row ", i, " is another length"), c, shards, most, api.ErrArg)
				}
			}
			shards := make([][]byte, s.n())
			shards[i] = []byte{0}
			fails(t, fmt.Sprint(s, ": row ", i, " alone has a byte"), c, shards, 0, api.ErrArg)
		}
	}
}

// A coder that isn't there

func TestNobodysCoder(t *testing.T) {
	var zero code.Coder
	nobodys := map[string]*code.Coder{"nil": nil, "zero": &zero, "new": new(code.Coder), "refused": code.New(field.New(), 0, 1), "of no field": code.New(nil, 2, 1)}
	for name, c := range nobodys {
		for _, shards := range [][][]byte{nil, {}, {nil}, {{}}, {{1}}, {{5}, {5}, {140}}, {{5}, {7}, {140}}, {nil, nil, nil}, {{1}, {2, 3}}, rows(16, 3, 36), rows(17, 3, 37), rows(300, 2, 38), make([][]byte, 300)} {
			for _, most := range []int{0, 1, 2, 3, -1, 255, math.MaxInt, math.MinInt} {
				fails(t, name, c, shards, most, api.ErrNil)
			}
		}
		if c != nil && *c != (code.Coder{}) {
			t.Errorf("%s: it was changed", name)
		}
	}
}

// P8.4

func TestRowsThatHoldAreFar(t *testing.T) {
	for _, s := range append(small(), great()...) {
		c := coder(t, s)
		data := rows(s.k, 3, 40)
		right := whole(t, c, data)
		for i := range s.k {
			for at := range 3 {
				for _, mask := range []byte{1, 7, 0x80, 0xff} {
					other := clone(data)
					other[i][at] ^= mask // the least that there is: one row of data, by one byte
					if far := locate.Differ(right, whole(t, c, other)); len(far) <= s.m {
						t.Errorf("%v: unlike data, but only %v differ", s, far)
					}
				}
			}
		}
		for seed := range uint32(20) {
			if far := locate.Differ(right, whole(t, c, rows(s.k, 3, 41+seed))); len(far) <= s.m {
				t.Errorf("%v: unlike data, but only %v differ", s, far)
			}
		}
	}
}

func TestAllWordsAreFar(t *testing.T) {
	for _, s := range []size{{1, 1}, {1, 2}, {1, 8}, {2, 1}, {2, 3}} {
		c := coder(t, s)
		all := words(t, c)
		for at, word := range all[1:] {
			// Differences of words are words, so that the one of noughts is enough.
			if far := locate.Differ(all[0], word); len(far) <= s.m {
				t.Errorf("%v: word %d: only %v differ", s, at+1, far)
			}
		}
	}
}

func TestWhatIsFoundIsFoundAgain(t *testing.T) {
	for _, s := range small() {
		c := coder(t, s)
		right := whole(t, c, rows(s.k, 4, 70))
		for _, set := range sets(s.n(), s.borne()) {
			got, _, e := locate.Find(c, wrong(right, set, turns()[2]), s.borne())
			if e != api.OK {
				t.Fatalf("%v: Find: %d", s, e)
			}
			for most := range s.borne() + 1 {
				finds(t, fmt.Sprint(s, ": once more"), c, got, most, right, nil)
			}
		}
	}
}

// R3

// handed are rows that may be handed in, and how many of them may be wrong.
type handed struct {
	shards [][]byte
	most   int
}

// handedIn answers rows as they may be handed in: right ones, and wrong ones.
func handedIn(t *testing.T, s size) []handed {
	t.Helper()
	right := whole(t, coder(t, s), rows(s.k, 6, 80))
	all := []handed{{right, 0}, {right, s.borne()}, {rows(s.n(), 6, 81), s.borne()}, {make([][]byte, s.n()), 0}, {right[1:], 0}, {append(clone(right), text(6, 82)), 0}, {right, 3}, {nil, 0}}
	for i := range s.n() {
		short := clone(right)
		short[i] = short[i][:5]
		all = append(all, handed{short, s.borne()}, handed{wrong(right, []int{i}, turns()[0]), s.borne()}, handed{eachAtItsOwn(right, []int{i, (i + 1) % s.n()}), s.borne()})
	}
	return all
}

// roomy answers the same, with room behind all ends, and a row behind the last one.
func (h handed) roomy() handed {
	list := make([][]byte, 0, len(h.shards)+1)
	for _, row := range h.shards {
		list = append(list, append(bytes.Clone(row), "what somebody else keeps"...)[:len(row)])
	}
	return handed{append(list, []byte("a row behind the end"))[:len(h.shards)], h.most}
}

// all are all rows that are handed in, with all that is behind their ends.
func (h handed) all() [][]byte {
	list := slices.Clone(h.shards[:cap(h.shards)])
	for i, row := range list {
		list[i] = row[:cap(row)]
	}
	return list
}

// some are sizes of coders that bear no wrong row, one, and two.
func some() []size {
	return []size{{1, 1}, {3, 1}, {1, 2}, {2, 2}, {3, 3}, {1, 4}, {2, 5}, {4, 4}, {12, 4}, {8, 8}}
}

func TestNothingIsChanged(t *testing.T) {
	for _, s := range some() {
		c := coder(t, s)
		for at, h := range handedIn(t, s) {
			h = h.roomy()
			kept, lengths := clone(h.all()), clone(h.shards)
			got, which, _ := locate.Find(c, h.shards, h.most)
			numbers := slices.Clone(which)
			for i, row := range got {
				row = append(row, "behind"...)
				for at := range row {
					row[at] = ^row[at]
				}
				clear(got[i])
				got[i] = nil
			}
			_ = append(got, []byte("behind"), []byte("all"))
			if !slices.Equal(which, numbers) {
				t.Errorf("%v: %d: the numbers go with the rows", s, at)
			}
			_ = append(which, -1)
			clear(which)
			locate.Close(c, h.shards, h.most)
			differing := locate.Differ(h.shards, got)
			_ = append(differing, -1)
			clear(differing)
			locate.Differ(got, h.shards)
			if !same(h.all(), kept) || !same(h.shards, lengths) {
				t.Fatalf("%v: %d: what was handed in was changed", s, at)
			}
		}
	}
}

func TestRoomIsNobodys(t *testing.T) {
	for _, s := range some() {
		c := coder(t, s)
		for at, h := range handedIn(t, s) {
			want, numbers, refusal := locate.Find(c, h.shards, h.most)
			if refusal != api.OK {
				fails(t, fmt.Sprint(s, ": ", at, ", with room"), c, h.roomy().shards, h.most, refusal)
			} else {
				finds(t, fmt.Sprint(s, ": ", at, ", with room"), c, h.roomy().shards, h.most, want, numbers)
			}
			differs(t, fmt.Sprint(s, ": ", at, ", with room"), h.shards, h.roomy().shards)
		}
	}
}

func TestRowsOfAnAnswerShareNothing(t *testing.T) {
	for _, s := range some() {
		c, one := coder(t, s), make([]byte, 5)
		list := make([][]byte, s.n())
		for i := range list {
			list[i] = one // a row that stands in several places is several rows in the answer
		}
		lists := [][][]byte{list}
		if s.borne() > 0 {
			list = slices.Clone(list)
			list[0] = []byte{0, 0, 7, 0, 0} // which is made anew
			lists = append(lists, list)
		}
		for at, list := range lists {
			got, which, e := locate.Find(c, list, s.borne())
			if e != api.OK || len(which) != at {
				t.Fatalf("%v: Find = %v, %d", s, which, e)
			}
			for i, row := range got {
				for place := range cap(row) {
					row[:cap(row)][place] ^= 0xff
				}
				for other := i + 1; other < len(got); other++ {
					if !bytes.Equal(got[other], one) {
						t.Fatalf("%v: row %d goes with row %d, or with what was handed in", s, other, i)
					}
				}
			}
		}
		if !bytes.Equal(one, make([]byte, 5)) {
			t.Fatalf("%v: what was handed in goes with the answer", s)
		}
	}
}

func TestAnswersAreNewMemory(t *testing.T) {
	for _, s := range some() {
		c := coder(t, s)
		for at, h := range handedIn(t, s) {
			first, numbers, e := locate.Find(c, h.shards, h.most)
			kept, keptNumbers := clone(first), slices.Clone(numbers)
			second, others, _ := locate.Find(c, h.shards, h.most)
			for i, row := range second {
				clear(row[:cap(row)])
				second[i] = nil
			}
			clear(others[:cap(others)])
			third, again, e3 := locate.Find(c, h.shards, h.most)
			if !same(first, kept) || !slices.Equal(numbers, keptNumbers) {
				t.Errorf("%v: %d: two answers share memory", s, at)
			}
			if e3 != e || !same(third, kept) || !slices.Equal(again, keptNumbers) {
				t.Errorf("%v: %d: Find = %s, %v, %d, then %s, %v, %d", s, at, brief(kept), keptNumbers, e, brief(third), again, e3)
			}
		}
	}
}

func TestWhatWasHandedInIsNotKept(t *testing.T) {
	for _, s := range some() {
		c := coder(t, s)
		for at, h := range handedIn(t, s) {
			h = h.roomy()
			got, which, _ := locate.Find(c, h.shards, h.most)
			differing := locate.Differ(h.shards, nil)
			kept, numbers, keptDiffering := clone(got), slices.Clone(which), slices.Clone(differing)
			for _, row := range h.all() {
				clear(row)
			}
			clear(h.shards)
			if !same(got, kept) || !slices.Equal(which, numbers) || !slices.Equal(differing, keptDiffering) {
				t.Errorf("%v: %d: an answer goes with what was handed in", s, at)
			}
		}
	}
}

// R4

func TestCodersAnswerTheSame(t *testing.T) {
	f := field.New()
	for _, s := range some() {
		one, two, other := code.New(f, s.k, s.m), code.New(f, s.k, s.m), code.New(field.New(), s.k, s.m)
		beside := code.New(f, s.m, s.k) // of other numbers, with the same field: it changes nothing for the others
		for at, h := range handedIn(t, s) {
			want, numbers, refusal := locate.Find(one, h.shards, h.most)
			locate.Find(beside, h.shards, h.most)
			for _, c := range []*code.Coder{one, two, other} {
				name := fmt.Sprint(s, ": ", at, ", once more")
				if refusal != api.OK {
					fails(t, name, c, h.shards, h.most, refusal)
				} else {
					finds(t, name, c, h.shards, h.most, want, numbers)
				}
			}
		}
	}
}
