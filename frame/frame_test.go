package frame_test

import (
	"bytes"
	"fmt"
	"hash/crc32"
	"math"
	"slices"
	"strings"
	"testing"

	"ciborium/api"
	"ciborium/frame"
)

// What the chapter counts with, written apart from the program.
const (
	mostChanges = 16
	mostKey     = 16
	mostSize    = 400
	mostPlaces  = 400
	lastPlace   = 599
	headBytes   = 7
)

// number is a number in groups of seven bits.
func number(n uint64) []byte {
	var b []byte
	for ; n > 127; n /= 128 {
		b = append(b, byte(n%128)+128)
	}
	return append(b, byte(n))
}

// edges are numbers where one byte more is taken, and those beside them.
func edges() []uint64 {
	l := []uint64{0, 1, 2, 15, 16, 17, 300, 399, 400, 401, 598, 599, 600, 1<<16 + 1, 1<<32 + 1, 1<<63 - 1, 1 << 63, 1<<63 + 1, math.MaxUint64 - 1, math.MaxUint64}
	for bit := 7; bit < 64; bit += 7 {
		l = append(l, 1<<bit-1, 1<<bit, 1<<bit+1)
	}
	slices.Sort(l)
	return slices.Compact(l)
}

// text answers so many bytes, each unlike those of another seed at its place.
func text(seed, long int) []byte {
	b := make([]byte, long)
	for i := range b {
		b[i] = byte(seed + 31*i + i/256)
	}
	return b
}

// places are so many of those that there may be.
func places(n int) []int {
	l := make([]int, n)
	for i := range l {
		l[i] = (i*7 + 3) % 600
	}
	return l
}

// keys are so many that rise, of one to five bytes.
func keys(n int) []string {
	l := make([]string, n)
	for i := range l {
		l[i] = fmt.Sprint("k", i) + strings.Repeat("\xff", i%3)
	}
	slices.Sort(l)
	return l
}

// changes are so many, each third one of which deletes its key.
func changes(n int) []api.Change {
	l := make([]api.Change, n)
	for i, key := range keys(n) {
		l[i].Key = key
		if l[i].Dead = i%3 == 1; !l[i].Dead {
			l[i].Blob = api.Blob{Size: i * 20 % 401, Gen: uint64(i) << (4 * i % 60), Places: places(i % 4)}
		}
	}
	return l
}

// with answers three changes, one of which is made otherwise.
func with(at int, change func(c *api.Change)) api.Record {
	r := api.Record{Stamp: 300, Changes: []api.Change{
		{Key: "a", Blob: api.Blob{Size: 5, Gen: 7, Places: []int{1}}},
		{Key: "b", Blob: api.Blob{Size: 6, Gen: 8, Places: []int{2, 300}}},
		{Key: "c", Blob: api.Blob{Size: 7, Gen: 1 << 20, Places: []int{3}}},
	}}
	change(&r.Changes[at])
	return r
}

// sample is a record, and whether it is right.
type sample struct {
	name  string
	r     api.Record
	right bool
}

// ofCounts are records of so many changes.
func ofCounts() []sample {
	var l []sample
	for _, n := range []int{0, 1, 2, 3, 15, 16, 17, 18, 32, 255, 1000} {
		l = append(l, sample{fmt.Sprint(n, " changes"), api.Record{Stamp: 1, Changes: changes(n)}, n <= mostChanges})
	}
	return append(l, sample{"no list", api.Record{}, true}, sample{"an empty list", api.Record{Stamp: 5, Changes: []api.Change{}}, true})
}

// ofKeys are records with keys of each length, at each place.
func ofKeys() []sample {
	var l []sample
	for _, long := range []int{0, 1, 2, 15, 16, 17, 18, 32, 127, 128, 1000} {
		for at, letter := range []string{"a", "b", "c"} {
			r := with(at, func(c *api.Change) { c.Key = strings.Repeat(letter, long) })
			l = append(l, sample{fmt.Sprint("key ", at, " of ", long, " bytes"), r, 1 <= long && long <= mostKey})
		}
		r := api.Record{Changes: []api.Change{{Key: strings.Repeat("\x00", long), Dead: true}}}
		l = append(l, sample{fmt.Sprint(long, " noughts"), r, 1 <= long && long <= mostKey})
	}
	return l
}

// ofOrder are records of three keys in each order, one of which may begin another, or be the same.
func ofOrder() []sample {
	some := []string{"\x00", "\x00\x00", "\x01", "a", "a\x00", "aa", "ab", "b", "\x7f", "\x80", "\xc3\xa9", "\xff", "\xff\xff", strings.Repeat("\xff", 16)}
	var l []sample
	for i, x := range some {
		for j, y := range some {
			for k, z := range some {
				r := with(0, func(c *api.Change) { c.Key = x })
				r.Changes[1].Key, r.Changes[2].Key = y, z
				l = append(l, sample{fmt.Sprintf("%q, %q, %q", x, y, z), r, i < j && j < k})
			}
		}
	}
	return l
}

// ofBlobs are records with blobs at the edges of each number, in each change.
func ofBlobs() []sample {
	var l []sample
	add := func(name string, right bool, change func(c *api.Change)) {
		for at := range 3 {
			l = append(l, sample{fmt.Sprint(name, ", change ", at), with(at, change), right})
		}
	}
	for _, n := range []int{math.MinInt, -1 << 32, -400, -2, -1, 0, 1, 127, 128, 399, 400, 401, 402, 1 << 16, 1 << 32, 1<<32 + 5, math.MaxInt} {
		add(fmt.Sprint("Size ", n), 0 <= n && n <= mostSize, func(c *api.Change) { c.Blob.Size = n })
	}
	for _, n := range []int{0, 1, 2, 127, 128, 399, 400, 401, 402, 1000} {
		add(fmt.Sprint(n, " places"), n <= mostPlaces, func(c *api.Change) { c.Blob.Places = places(n) })
	}
	for _, n := range []int{math.MinInt, -1 << 32, -2, -1, 0, 1, 127, 128, 598, 599, 600, 601, 1 << 16, 1 << 32, 1<<32 + 5, math.MaxInt} {
		for i := range 3 {
			list := []int{599, 0, 7}
			list[i] = n
			add(fmt.Sprint("places ", list), 0 <= n && n <= lastPlace, func(c *api.Change) { c.Blob.Places = list })
		}
		add(fmt.Sprint("place ", n, " behind 399"), 0 <= n && n <= lastPlace, func(c *api.Change) { c.Blob.Places = append(places(399), n) })
	}
	for _, gen := range edges() {
		add(fmt.Sprint("Gen ", gen), true, func(c *api.Change) { c.Blob.Gen = gen })
	}
	add("a zero blob", true, func(c *api.Change) { c.Blob = api.Blob{} })
	add("a blob of all that may be", true, func(c *api.Change) { c.Blob = api.Blob{Size: 400, Gen: math.MaxUint64, Places: places(400)} })
	return l
}

// ofDead are records with a change that deletes its key, and a blob that isn't zero.
func ofDead() []sample {
	var l []sample
	add := func(b api.Blob, right bool) {
		for at := range 3 {
			r := with(at, func(c *api.Change) { c.Dead, c.Blob = true, b })
			l = append(l, sample{fmt.Sprint("change ", at, " dead, with ", b), r, right})
		}
	}
	add(api.Blob{}, true)
	add(api.Blob{Places: []int{}}, true)
	add(api.Blob{Places: []int{1, 2, 3}[:0]}, true)
	for _, n := range []int{math.MinInt, -1, 1, 2, 400, 401, 1 << 32, math.MaxInt} {
		add(api.Blob{Size: n}, false)
		add(api.Blob{Gen: uint64(n)}, false)
		add(api.Blob{Places: []int{n}}, false)
		add(api.Blob{Size: n, Gen: uint64(n), Places: []int{n}}, false)
	}
	add(api.Blob{Gen: 1 << 32}, false)
	add(api.Blob{Gen: 1 << 63}, false)
	add(api.Blob{Places: []int{0}}, false)
	add(api.Blob{Places: []int{0, 0}}, false)
	add(api.Blob{Places: make([]int, 256)}, false)
	add(api.Blob{Places: make([]int, 401)}, false)
	return l
}

// ofStamps are records with stamps at the edges where one byte more is taken.
func ofStamps() []sample {
	var l []sample
	for _, stamp := range edges() {
		l = append(l, sample{fmt.Sprint("Stamp ", stamp), api.Record{Stamp: stamp, Changes: changes(2)}, true})
		l = append(l, sample{fmt.Sprint("Stamp ", stamp, " alone"), api.Record{Stamp: stamp}, true})
	}
	return l
}

// samples are all of these.
func samples() []sample {
	return slices.Concat(ofCounts(), ofKeys(), ofOrder(), ofBlobs(), ofDead(), ofStamps())
}

// rights are those that are right.
func rights() []sample {
	return slices.DeleteFunc(samples(), func(s sample) bool { return !s.right })
}

// same tells whether two records are the same, a nil list being as an empty one.
func same(x, y api.Record) bool {
	return x.Stamp == y.Stamp && slices.EqualFunc(x.Changes, y.Changes, func(c, d api.Change) bool {
		return c.Key == d.Key && c.Dead == d.Dead && c.Blob.Size == d.Blob.Size && c.Blob.Gen == d.Blob.Gen && slices.Equal(c.Blob.Places, d.Blob.Places)
	})
}

// cloned is a record that shares nothing with another one.
func cloned(r api.Record) api.Record {
	r.Changes = slices.Clone(r.Changes)
	for i := range r.Changes {
		r.Changes[i].Blob.Places = slices.Clone(r.Changes[i].Blob.Places)
	}
	return r
}

// plain is a record's text, one part behind the other.
func plain(r api.Record) []byte {
	b := append(number(r.Stamp), number(uint64(len(r.Changes)))...)
	for _, c := range r.Changes {
		b = append(b, byte(len(c.Key)))
		b = append(b, c.Key...)
		if c.Dead {
			b = append(b, 1)
			continue
		}
		b = append(b, 0)
		b = append(b, number(uint64(c.Blob.Size))...)
		b = append(b, number(c.Blob.Gen)...)
		b = append(b, number(uint64(len(c.Blob.Places)))...)
		for _, place := range c.Blob.Places {
			b = append(b, number(uint64(place))...)
		}
	}
	return b
}

// plainNumber takes a number from the beginning of a text, and tells what is left.
func plainNumber(b []byte) (uint64, []byte, api.Errno) {
	var n uint64
	for i, x := range b {
		if i == 9 && x > 1 || i > 0 && x == 0 {
			return 0, nil, api.ErrForm
		}
		n += uint64(x%128) << (7 * i)
		if x < 128 {
			return n, b[i+1:], api.OK
		}
	}
	return 0, nil, api.ErrShort
}

// plainBlob takes a blob, number by number.
func plainBlob(b []byte) (api.Blob, []byte, api.Errno) {
	var list []uint64
	for len(list) < 3 || uint64(len(list)) < 3+list[2] {
		n, rest, e := plainNumber(b)
		if e != api.OK {
			return api.Blob{}, nil, e
		}
		most := uint64(599)
		switch len(list) {
		case 0, 2:
			most = 400
		case 1:
			most = math.MaxUint64
		}
		if n > most {
			return api.Blob{}, nil, api.ErrForm
		}
		list, b = append(list, n), rest
	}
	y := api.Blob{Size: int(list[0]), Gen: list[1]}
	for _, n := range list[3:] {
		y.Places = append(y.Places, int(n))
	}
	return y, b, api.OK
}

// plainKey takes a key above the one ahead.
func plainKey(b []byte, ahead []byte) ([]byte, []byte, api.Errno) {
	long, b, e := plainNumber(b)
	switch {
	case e != api.OK:
		return nil, nil, e
	case long > mostKey:
		return nil, nil, api.ErrFull
	case uint64(len(b)) < long:
		return nil, nil, api.ErrShort
	case long == 0 || bytes.Compare(b[:long], ahead) <= 0:
		return nil, nil, api.ErrForm
	}
	return b[:long], b[long:], api.OK
}

// plainGet reads a record apart from the program: each part is taken away from the text's beginning.
func plainGet(b []byte) (api.Record, api.Errno) {
	stamp, b, e := plainNumber(b)
	if e != api.OK {
		return api.Record{}, e
	}
	count, b, e := plainNumber(b)
	if e != api.OK {
		return api.Record{}, e
	}
	if count > mostChanges {
		return api.Record{}, api.ErrForm
	}
	r, ahead := api.Record{Stamp: stamp}, []byte(nil)
	for range count {
		if ahead, b, e = plainKey(b, ahead); e != api.OK {
			return api.Record{}, e
		}
		if len(b) == 0 {
			return api.Record{}, api.ErrShort
		}
		if b[0] > 1 {
			return api.Record{}, api.ErrForm
		}
		c := api.Change{Key: string(ahead), Dead: b[0] == 1}
		b = b[1:]
		if !c.Dead {
			if c.Blob, b, e = plainBlob(b); e != api.OK {
				return api.Record{}, e
			}
		}
		r.Changes = append(r.Changes, c)
	}
	if len(b) > 0 {
		return api.Record{}, api.ErrForm
	}
	return r, api.OK
}

// The chapter's example, with the sum of 03 00 00 as it was reckoned apart from all packages.
func TestExample(t *testing.T) {
	for _, room := range []int{8, 9, 88, 65535} {
		want := [][]byte{{3, 0, 0, 0x09, 0x63, 0x4a, 0x8a}}
		if got := bitwise(0, []byte{3, 0, 0}); !bytes.Equal(want[0][3:], four(got)) {
			t.Fatalf("the sum of 03 00 00 is %x", got)
		}
		if got, e := frame.Cut(nil, room); !slices.EqualFunc(got, want, bytes.Equal) || e != api.OK {
			t.Errorf("Cut of no bytes, room %d = %x, %d, want %x", room, got, e, want)
		}
	}
}

// P17.1

func TestRight(t *testing.T) {
	for _, s := range samples() {
		r := cloned(s.r)
		if right := frame.Right(r); right != s.right {
			t.Errorf("%s: Right = %v", s.name, right)
		}
		if !same(r, s.r) {
			t.Errorf("%s: Right changed it", s.name)
		}
	}
}

func TestPutRecord(t *testing.T) {
	for _, s := range samples() {
		r := cloned(s.r)
		got, e := frame.PutRecord(r)
		if s.right && (!bytes.Equal(got, plain(s.r)) || e != api.OK) {
			t.Errorf("%s: PutRecord = %x, %d, want %x", s.name, got, e, plain(s.r))
		}
		if !s.right && (len(got) != 0 || e != api.ErrArg) {
			t.Errorf("%s: PutRecord = %x, %d, want nothing, %d", s.name, got, e, api.ErrArg)
		}
		if !same(r, s.r) {
			t.Errorf("%s: PutRecord changed it", s.name)
		}
	}
}

// written are texts that were written by hand.
func written() map[string]api.Record {
	return map[string]api.Record{
		"\x00\x00":          {},
		"\x7f\x00":          {Stamp: 127},
		"\x80\x01\x00":      {Stamp: 128},
		"\x00\x01\x01a\x01": {Changes: []api.Change{{Key: "a", Dead: true}}},
		"\xac\x02\x02\x01a\x00\x05\xac\x02\x01\x07\x02bc\x01": {Stamp: 300, Changes: []api.Change{
			{Key: "a", Blob: api.Blob{Size: 5, Gen: 300, Places: []int{7}}}, {Key: "bc", Dead: true}}},
		"\x01\x03\x01\x00\x01\x02\x00\x00\x00\x00\x00\x00\x01\xff\x00\x90\x03\x80\x80\x40\x02\xd7\x04\x00": {Stamp: 1, Changes: []api.Change{
			{Key: "\x00", Dead: true}, {Key: "\x00\x00"}, {Key: "\xff", Blob: api.Blob{Size: 400, Gen: 1 << 20, Places: []int{599, 0}}}}},
		"\xff\xff\xff\xff\xff\xff\xff\xff\xff\x01\x01\x100123456789abcdef\x00\x00\xff\xff\xff\xff\xff\xff\xff\xff\xff\x01\x00": {
			Stamp: math.MaxUint64, Changes: []api.Change{{Key: "0123456789abcdef", Blob: api.Blob{Gen: math.MaxUint64}}}},
	}
}

func TestRecordsByteByByte(t *testing.T) {
	for b, r := range written() {
		if got, e := frame.PutRecord(r); string(got) != b || e != api.OK {
			t.Errorf("PutRecord(%v) = %x, %d, want %x", r, got, e, b)
		}
		if got, e := frame.GetRecord([]byte(b)); !same(got, r) || e != api.OK {
			t.Errorf("GetRecord(%x) = %v, %d, want %v", b, got, e, r)
		}
	}
}

// A stamp takes one byte more from each seventh bit on.
func TestStamps(t *testing.T) {
	for bits := range 65 {
		stamp := uint64(1)<<bits - 1
		got, e := frame.PutRecord(api.Record{Stamp: stamp})
		if want := max(bits+6, 7)/7 + 1; len(got) != want || e != api.OK {
			t.Errorf("PutRecord of the stamp %d = %x, %d, want %d bytes", stamp, got, e, want)
		}
		if r, e := frame.GetRecord(got); r.Stamp != stamp || len(r.Changes) != 0 || e != api.OK {
			t.Errorf("GetRecord(%x) = %v, %d, want the stamp %d", got, r, e, stamp)
		}
	}
}

// reads tells what goes wrong where a text is to be a record, or a fault.
func reads(t *testing.T, name string, b []byte, want api.Record, wrong api.Errno) {
	t.Helper()
	was := bytes.Clone(b)
	if r, e := frame.GetRecord(b); !same(r, want) || e != wrong {
		t.Errorf("%s: GetRecord(%x) = %v, %d, want %v, %d", name, b, r, e, want, wrong)
	}
	if !bytes.Equal(b, was) {
		t.Errorf("%s: GetRecord(%x) changed it", name, was)
	}
}

// readsPlainly tells what goes wrong where a text isn't read as by the plain reader.
func readsPlainly(t *testing.T, name string, b []byte) {
	t.Helper()
	r, e := plainGet(b)
	reads(t, name, b, r, e)
}

func TestGetRecord(t *testing.T) {
	for _, s := range rights() {
		b := plain(s.r)
		reads(t, s.name, b, s.r, api.OK)
		// What stands behind a text's end is nobody's, as long as there is room for it.
		reads(t, s.name+", with room", append(bytes.Clone(b), 1, 2, 3)[:len(b)], s.r, api.OK)
	}
}

// What is put is got, and what is got and put again are the bytes that were read.
func TestRecordsThereAndBack(t *testing.T) {
	for _, s := range rights() {
		b, _ := frame.PutRecord(s.r)
		r, e := frame.GetRecord(b)
		if !same(r, s.r) || e != api.OK || !frame.Right(r) {
			t.Errorf("%s: put as %x, and got as %v, %d", s.name, b, r, e)
		}
		if again, e := frame.PutRecord(r); !bytes.Equal(again, b) || e != api.OK {
			t.Errorf("%s: put as %x, got, and put as %x, %d", s.name, b, again, e)
		}
	}
}

// few are some records that are right, of few bytes.
func few() []sample {
	l := rights()
	return slices.DeleteFunc(l, func(s sample) bool { return len(plain(s.r)) > 60 })
}

// Cut off behind each byte a text is too short.
func TestGetRecordCutOff(t *testing.T) {
	for _, s := range rights() {
		b := plain(s.r)
		for long := range b {
			if long < 100 || long > len(b)-100 || long%37 == 0 {
				reads(t, fmt.Sprint(s.name, ", cut off at ", long), b[:long], api.Record{}, api.ErrShort)
			}
		}
	}
	reads(t, "nothing", nil, api.Record{}, api.ErrShort)
	reads(t, "no bytes", []byte{}, api.Record{}, api.ErrShort)
}

func TestGetRecordWithBytesLeft(t *testing.T) {
	for _, s := range few() {
		for _, left := range [][]byte{{0}, {1}, {0x80}, {0xff}, {0, 0}, plain(s.r), make([]byte, 1000)} {
			reads(t, fmt.Sprint(s.name, ", ", len(left), " bytes left"), append(plain(s.r), left...), api.Record{}, api.ErrForm)
		}
	}
}

// part is a part of a record's text, and what is wrong with it.
type part struct {
	bytes []byte
	wrong api.Errno
}

// joined are all parts, one behind the other.
func joined(parts []part) []byte {
	var b []byte
	for _, p := range parts {
		b = append(b, p.bytes...)
	}
	return b
}

// parts are those of a right record: its stamp, the number of its changes, a key, a blob's mark and numbers, a key that is deleted, and a key with a blob of no places. Behind them stands nothing.
func parts() []part {
	var l []part
	for _, b := range []string{"\xac\x02", "\x03", "\x02bb", "\x00", "\x05", "\x88\x01", "\x02", "\xd7\x04", "\x09", "\x02bc", "\x01", "\x01c", "\x00", "\x90\x03", "\x00", "\x00", ""} {
		l = append(l, part{bytes: []byte(b)})
	}
	return l
}

// forms are numbers that aren't in their shortest form, or are too long.
func forms() []part {
	long := func(n int, last ...byte) []byte { return append(slices.Repeat([]byte{255}, n), last...) }
	return []part{
		{[]byte{0x80, 0}, api.ErrForm}, {[]byte{0x85, 0}, api.ErrForm}, {[]byte{0x80, 0x80, 0}, api.ErrForm},
		{long(9, 2), api.ErrForm}, {long(9, 127), api.ErrForm}, {long(9, 128), api.ErrForm}, {long(10, 1), api.ErrForm}, {long(9, 0), api.ErrForm}, {long(20, 1), api.ErrForm},
	}
}

// above are numbers that are greater than they may be.
func above(most uint64, wrong api.Errno) []part {
	l := forms()
	for _, n := range append(edges(), most+1) {
		if n > most {
			l = append(l, part{number(n), wrong})
		}
	}
	return l
}

// badKeys are those that may not stand behind another one.
func badKeys(ahead string) []part {
	l := []part{{[]byte{0}, api.ErrForm}}
	for _, p := range above(mostKey, api.ErrFull) {
		l = append(l, p, part{append(bytes.Clone(p.bytes), bytes.Repeat([]byte("z"), 20)...), p.wrong})
	}
	for end := range ahead { // each one that begins it, and those that are less from there on
		l = append(l, part{append([]byte{byte(end + 1)}, ahead[:end+1]...), api.ErrForm})
		less := append([]byte{byte(end + 1)}, ahead[:end]...)
		l = append(l, part{append(less, ahead[end]-1), api.ErrForm})
		longer := append([]byte{byte(end + 3)}, ahead[:end]...)
		l = append(l, part{append(longer, ahead[end]-1, 'z', 'z'), api.ErrForm})
	}
	return l
}

// badMarks are bytes that tell neither that a key is deleted, nor that it isn't.
func badMarks() []part {
	var l []part
	for x := 2; x < 256; x++ {
		l = append(l, part{[]byte{byte(x)}, api.ErrForm})
	}
	return l
}

// wrongs are all that may be wrong with each of the parts.
func wrongs() [][]part {
	left := []part{{[]byte{0}, api.ErrForm}, {[]byte{1}, api.ErrForm}, {[]byte("\x01d\x01"), api.ErrForm}, {[]byte{255}, api.ErrForm}}
	return [][]part{
		forms(), above(mostChanges, api.ErrForm),
		badKeys(""), badMarks(), above(mostSize, api.ErrForm), forms(), above(mostPlaces, api.ErrForm), above(lastPlace, api.ErrForm), above(lastPlace, api.ErrForm),
		badKeys("bb"), badMarks(),
		badKeys("bc"), badMarks(), above(mostSize, api.ErrForm), forms(), above(mostPlaces, api.ErrForm),
		left,
	}
}

func TestPartsAreARecord(t *testing.T) {
	want := api.Record{Stamp: 300, Changes: []api.Change{
		{Key: "bb", Blob: api.Blob{Size: 5, Gen: 136, Places: []int{599, 9}}}, {Key: "bc", Dead: true}, {Key: "c", Blob: api.Blob{Size: 400}}}}
	reads(t, "the parts", joined(parts()), want, api.OK)
	if n := len(wrongs()); n != len(parts()) {
		t.Errorf("faults of %d parts", n)
	}
}

func TestGetRecordOfEachFault(t *testing.T) {
	for at, l := range wrongs() {
		for _, one := range l {
			all := parts()
			all[at] = one
			name := fmt.Sprint("fault at part ", at)
			reads(t, name, joined(all), api.Record{}, one.wrong)
			// Cut off right behind it, the text is too short, too: what is met first is told.
			reads(t, name+", the last one", joined(all[:at+1]), api.Record{}, one.wrong)
			for long := range joined(all) {
				readsPlainly(t, fmt.Sprint(name, ", cut off at ", long), joined(all)[:long])
			}
		}
	}
}

// Two faults in one text: the first that is met, part by part.
func TestGetRecordOfTwoFaults(t *testing.T) {
	all := wrongs()
	for first := range all {
		for second := first + 1; second < len(all); second++ {
			for i, one := range all[first] {
				// Of marks, of which there are many that are wrong in the same way, some are enough.
				if i > 30 && i%40 > 0 {
					continue
				}
				for j, two := range all[second] {
					if j > 30 && j%40 > 0 {
						continue
					}
					list := parts()
					list[first], list[second] = one, two
					reads(t, fmt.Sprint("faults at ", first, " and ", second), joined(list), api.Record{}, one.wrong)
				}
			}
		}
	}
}

// As soon as the number of changes is read, more than 16 are told, whatever stands behind it.
func TestGetRecordOfTooManyChanges(t *testing.T) {
	for n := uint64(0); n < 300; n++ {
		list := changes(int(n))
		head := append([]byte{5}, number(n)...)
		want := api.ErrForm
		if n <= mostChanges {
			want = api.OK
		}
		b := append(head, plain(api.Record{Changes: list})[len(number(n))+1:]...)
		if n <= mostChanges {
			reads(t, fmt.Sprint(n, " changes"), b, api.Record{Stamp: 5, Changes: list}, want)
			continue
		}
		reads(t, fmt.Sprint(n, " changes"), b, api.Record{}, want)
		for _, behind := range [][]byte{nil, {0}, {17}, {255}, {0x80, 0}, {1, 'a', 2}} {
			reads(t, fmt.Sprint(n, " changes, and ", behind), append(bytes.Clone(head), behind...), api.Record{}, want)
		}
	}
}

// A record as it may be at the most.
func TestTheGreatestRecord(t *testing.T) {
	r := api.Record{Stamp: math.MaxUint64}
	for i := range mostChanges {
		list := make([]int, mostPlaces)
		for j := range list {
			list[j] = lastPlace - j%3
		}
		r.Changes = append(r.Changes, api.Change{Key: strings.Repeat(string(rune('a'+i)), mostKey), Blob: api.Blob{Size: mostSize, Gen: math.MaxUint64, Places: list}})
	}
	b, e := frame.PutRecord(r)
	if !bytes.Equal(b, plain(r)) || e != api.OK {
		t.Errorf("the greatest record: %d bytes, %d", len(b), e)
	}
	reads(t, "the greatest record", b, r, api.OK)
	reads(t, "a byte more", append(b, 0), api.Record{}, api.ErrForm)
}

// Each text of few bytes, behind some heads, against a reader that is written apart from the program.
func TestGetRecordOfEachShortText(t *testing.T) {
	for _, c := range []struct {
		head, some string
		long       int
	}{
		{"", "\x00\x01\x02\x10\x11a\x80\xff", 5},
		{"\x00\x01", "\x00\x01\x02\x03\x10\x11ab\x80\xff", 5},
		{"\x00\x02\x01a\x01", "\x00\x01\x02\x03\x11`ab\x80\xff", 5},
		{"\x05\x01\x01a\x00", "\x00\x01\x02\x03\x04\x7f\x80\x81\x90\x91\xd7\xd8", 5},
		{"\x05\x01\x01a\x00\x01\x02\x02", "\x00\x01\x03\x04\x05\x7f\x80\x81\xd7\xd8\xff", 4},
	} {
		for long := range c.long + 1 {
			eachText(c.some, long, func(tail []byte) { readsPlainly(t, "a short text", append([]byte(c.head), tail...)) })
		}
	}
}

// eachText hands on each text of so many of some bytes.
func eachText(some string, long int, do func(b []byte)) {
	b := make([]byte, long)
	ways := 1
	for range long {
		ways *= len(some)
	}
	for way := range ways {
		for i := range b {
			b[i] = some[way%len(some)]
			way /= len(some)
		}
		do(b)
	}
}

// Each byte made each other one, left out, and put in.
func TestGetRecordOfTextsAllButRight(t *testing.T) {
	for i, s := range few() {
		if i%9 > 0 && i > 40 {
			continue
		}
		b := plain(s.r)
		for at := range b {
			for x := range 256 {
				now := bytes.Clone(b)
				now[at] = byte(x)
				readsPlainly(t, fmt.Sprint(s.name, ", byte ", at), now)
				if x%16 == 1 {
					readsPlainly(t, fmt.Sprint(s.name, ", one more at ", at), slices.Insert(bytes.Clone(b), at, byte(x)))
				}
			}
			readsPlainly(t, fmt.Sprint(s.name, ", without byte ", at), slices.Delete(bytes.Clone(b), at, at+1))
		}
	}
}

// P17.2

// bitwise is the sum of a text that was summed to sum, and of b behind it, reckoned bit by bit.
func bitwise(sum uint32, b []byte) uint32 {
	sum = ^sum
	for _, x := range b {
		sum ^= uint32(x)
		for range 8 {
			odd := sum & 1
			sum >>= 1
			if odd == 1 {
				sum ^= 0x82f63b78
			}
		}
	}
	return ^sum
}

// more is the same, in less time.
func more(sum uint32, b []byte) uint32 {
	return crc32.Update(sum, crc32.MakeTable(crc32.Castagnoli), b)
}

// four are a sum's bytes.
func four(sum uint32) []byte {
	return []byte{byte(sum), byte(sum >> 8), byte(sum >> 16), byte(sum >> 24)}
}

// plainPiece is a piece of its parts, and its sum.
func plainPiece(ahead uint32, marks byte, length int, b []byte) ([]byte, uint32) {
	head := []byte{marks, byte(length), byte(length >> 8)}
	sum := more(more(ahead, head), b)
	return slices.Concat(head, four(sum), b), sum
}

// plainCut takes one piece behind the other away from a text's beginning.
func plainCut(b []byte, room int) [][]byte {
	var l [][]byte
	sum, marks := uint32(0), byte(1)
	for {
		now := b[:min(len(b), room-headBytes)]
		b = b[len(now):]
		if len(b) == 0 {
			marks += 2
		}
		var p []byte
		p, sum = plainPiece(sum, marks, len(now), now)
		l = append(l, p)
		if len(b) == 0 {
			return l
		}
		marks = 0
	}
}

// rooms are those that there may be.
func rooms() []int {
	return []int{8, 9, 10, 15, 16, 44, 88, 132, 134, 135, 136, 262, 263, 264, 11176, 65534, 65535}
}

// lengths are those of texts at the edges of what pieces have room for.
func lengths(room int) []int {
	l := []int{0, 1, 2, 3, 7, 8, 9, 100}
	for many := 1; many <= 4; many++ {
		full := many * (room - headBytes)
		l = append(l, full-1, full, full+1)
	}
	slices.Sort(l)
	return slices.Compact(l)
}

// cuts cuts what must be cut, and tells what goes wrong.
func cuts(t *testing.T, b []byte, room int) [][]byte {
	t.Helper()
	was := bytes.Clone(b)
	got, e := frame.Cut(b, room)
	if want := plainCut(b, room); !slices.EqualFunc(got, want, bytes.Equal) || e != api.OK {
		t.Fatalf("Cut(%d bytes, %d) = %d pieces, %d, want %d pieces, or they are others", len(b), room, len(got), e, len(want))
	}
	if !bytes.Equal(b, was) {
		t.Errorf("Cut(%d bytes, %d) changed them", len(b), room)
	}
	return got
}

func TestCut(t *testing.T) {
	for _, room := range rooms() {
		for _, long := range lengths(room) {
			cuts(t, text(long, long), room)
		}
	}
	for room := 8; room < 80; room++ {
		for long := range 160 {
			cuts(t, text(room, long), room)
		}
	}
}

// A few texts' pieces, with sums that are reckoned bit by bit.
func TestPiecesByteByByte(t *testing.T) {
	sums := make([]uint32, 4)
	sums[0] = bitwise(0, []byte("\x01\x02\x00ab"))
	sums[1] = bitwise(sums[0], []byte("\x00\x02\x00cd"))
	sums[2] = bitwise(sums[1], []byte("\x02\x01\x00e"))
	sums[3] = bitwise(0, []byte("\x03\x05\x00abcde"))
	for _, c := range []struct {
		room int
		want [][]byte
	}{
		{9, [][]byte{
			slices.Concat([]byte("\x01\x02\x00"), four(sums[0]), []byte("ab")),
			slices.Concat([]byte("\x00\x02\x00"), four(sums[1]), []byte("cd")),
			slices.Concat([]byte("\x02\x01\x00"), four(sums[2]), []byte("e")),
		}},
		{12, [][]byte{slices.Concat([]byte("\x03\x05\x00"), four(sums[3]), []byte("abcde"))}},
		{13, [][]byte{slices.Concat([]byte("\x03\x05\x00"), four(sums[3]), []byte("abcde"))}},
		{65535, [][]byte{slices.Concat([]byte("\x03\x05\x00"), four(sums[3]), []byte("abcde"))}},
	} {
		if got, e := frame.Cut([]byte("abcde"), c.room); !slices.EqualFunc(got, c.want, bytes.Equal) || e != api.OK {
			t.Errorf("Cut of abcde, room %d = %x, %d, want %x", c.room, got, e, c.want)
		}
	}
}

// Each piece is as long as it can be, with marks on the first one and the last one, and the sum that belongs to it.
func TestEachPiece(t *testing.T) {
	for _, room := range rooms() {
		for _, long := range lengths(room) {
			x := text(9, long)
			got, _ := frame.Cut(x, room)
			name := fmt.Sprint(long, " bytes, room ", room)
			if want := max(1, (long+room-headBytes-1)/(room-headBytes)); len(got) != want {
				t.Fatalf("%s: %d pieces, want %d", name, len(got), want)
			}
			sum, at := uint32(0), 0
			for i, p := range got {
				marks := byte(0)
				if i == 0 {
					marks |= 1
				}
				if i == len(got)-1 {
					marks |= 2
				}
				size := len(p) - headBytes
				if size < 0 || len(p) > room || marks&2 == 0 && len(p) != room || p[0] != marks || int(p[1]) != size%256 || int(p[2]) != size/256 {
					t.Fatalf("%s: piece %d is %x", name, i, p[:min(len(p), 20)])
				}
				sum = more(sum, slices.Concat(p[:3], p[headBytes:]))
				if !bytes.Equal(p[3:headBytes], four(sum)) || !bytes.Equal(p[headBytes:], x[at:at+size]) {
					t.Fatalf("%s: piece %d has another sum or text", name, i)
				}
				at += size
			}
			if at != long {
				t.Errorf("%s: %d bytes in all", name, at)
			}
		}
	}
}

func TestCutWithoutRoom(t *testing.T) {
	for _, room := range []int{math.MinInt, math.MinInt + 8, -1 << 32, -65535, -8, -7, -1, 0, 1, 2, 6, 7, 65536, 65537, 65543, 1 << 20, 1<<32 + 8, math.MaxInt - 1, math.MaxInt} {
		for _, long := range []int{0, 1, 100, 70000} {
			x := text(1, long)
			if got, e := frame.Cut(x, room); len(got) != 0 || e != api.ErrArg {
				t.Errorf("Cut(%d bytes, %d) = %d pieces, %d", long, room, len(got), e)
			}
			if !bytes.Equal(x, text(1, long)) {
				t.Errorf("Cut(%d bytes, %d) changed them", long, room)
			}
		}
	}
}

// P17.3

// plainJoin joins pieces apart from the program.
func plainJoin(pieces [][]byte) ([]byte, int, api.Errno) {
	var b []byte
	ahead := uint32(0)
	for i, p := range pieces {
		if len(p) < headBytes || int(p[1])+256*int(p[2]) != len(p)-headBytes {
			return nil, 0, api.ErrForm
		}
		if i == 0 && p[0] != 1 && p[0] != 3 || i > 0 && p[0] != 0 && p[0] != 2 {
			return nil, 0, api.ErrForm
		}
		ahead = more(ahead, slices.Concat(p[:3], p[headBytes:]))
		if !bytes.Equal(four(ahead), p[3:headBytes]) {
			return nil, 0, api.ErrSum
		}
		b = append(b, p[headBytes:]...)
		if p[0] >= 2 {
			return b, i + 1, api.OK
		}
	}
	return nil, 0, api.ErrTorn
}

// plainAll joins texts as long as there is one.
func plainAll(pieces [][]byte) ([][]byte, int) {
	var l [][]byte
	total := 0
	for {
		b, n, e := plainJoin(pieces)
		if e != api.OK {
			return l, total
		}
		l, total, pieces = append(l, b), total+n, pieces[n:]
	}
}

// clonedAll are pieces that share nothing with others.
func clonedAll(pieces [][]byte) [][]byte {
	l := slices.Clone(pieces)
	for i := range l {
		l[i] = bytes.Clone(l[i])
	}
	return l
}

// joins tells what goes wrong where pieces are to be a text, or a fault.
func joins(t *testing.T, name string, pieces [][]byte, want []byte, many int, wrong api.Errno) {
	t.Helper()
	was := clonedAll(pieces)
	if b, n, e := frame.Join(pieces); !bytes.Equal(b, want) || n != many || e != wrong {
		t.Errorf("%s: Join = %d bytes, %d, %d, want %d bytes, %d, %d", name, len(b), n, e, len(want), many, wrong)
	}
	if !slices.EqualFunc(pieces, was, bytes.Equal) {
		t.Errorf("%s: Join changed the pieces", name)
	}
}

// torn tells what goes wrong where pieces are to be a fault.
func torn(t *testing.T, name string, pieces [][]byte, wrong api.Errno) {
	t.Helper()
	joins(t, name, pieces, nil, 0, wrong)
}

// joinsPlainly tells what goes wrong where pieces aren't joined as by the plain ways, one text or all.
func joinsPlainly(t *testing.T, name string, pieces [][]byte) {
	t.Helper()
	b, n, e := plainJoin(pieces)
	joins(t, name, pieces, b, n, e)
	all, many := plainAll(pieces)
	if got, n := frame.All(pieces); !slices.EqualFunc(got, all, bytes.Equal) || n != many {
		t.Errorf("%s: All = %d texts, %d, want %d, %d", name, len(got), n, len(all), many)
	}
}

// summedAnew are pieces with the sums that belong to them, as long as they have a head.
func summedAnew(pieces [][]byte) [][]byte {
	l, sum := clonedAll(pieces), uint32(0)
	for _, p := range l {
		if len(p) >= headBytes {
			sum = more(sum, slices.Concat(p[:3], p[headBytes:]))
			copy(p[3:], four(sum))
		}
	}
	return l
}

func TestJoin(t *testing.T) {
	others := [][][]byte{nil, {nil}, {{}}, {{1, 2, 3}}, plainCut([]byte("other"), 9), plainCut(nil, 8), plainCut([]byte("other"), 9)[1:], {text(1, 100)}}
	for _, room := range rooms() {
		for _, long := range lengths(room) {
			x := text(long, long)
			pieces := plainCut(x, room)
			for i, behind := range others {
				joins(t, fmt.Sprint(long, " bytes, room ", room, ", behind them ", i), slices.Concat(pieces, behind), x, len(pieces), api.OK)
			}
			// What stands behind the end of the list is nobody's.
			joins(t, fmt.Sprint(long, " bytes, room ", room, ", with room"), append(slices.Clone(pieces), nil)[:len(pieces)], x, len(pieces), api.OK)
		}
	}
}

// What is put is got.
func TestCutAndJoined(t *testing.T) {
	for room := 8; room < 100; room++ {
		for long := range 130 {
			x := text(room+long, long)
			pieces, _ := frame.Cut(x, room)
			joins(t, fmt.Sprint(long, " bytes, room ", room), pieces, x, len(pieces), api.OK)
		}
	}
}

func TestJoinWithoutTheLast(t *testing.T) {
	torn(t, "no list", nil, api.ErrTorn)
	torn(t, "an empty list", [][]byte{}, api.ErrTorn)
	for _, room := range rooms() {
		for _, long := range lengths(room) {
			pieces := plainCut(text(3, long), room)
			for many := range pieces {
				if many > 5 && many < len(pieces)-5 {
					continue
				}
				torn(t, fmt.Sprint(long, " bytes, room ", room, ", the first ", many), pieces[:many], api.ErrTorn)
			}
		}
	}
}

// lists are texts of one piece to five.
func lists() [][][]byte {
	return [][][]byte{plainCut(nil, 8), plainCut([]byte("a"), 8), plainCut([]byte("abcdef"), 40), plainCut([]byte("abcdef"), 12), plainCut([]byte("abcdef"), 9), plainCut([]byte("abcde"), 8), plainCut(text(3, 900), 307)}
}

// Pieces of fewer bytes than a head has, at each place.
func TestJoinOfShortPieces(t *testing.T) {
	for i, whole := range lists() {
		for at := range whole {
			for long := range headBytes {
				pieces := slices.Clone(whole)
				pieces[at] = bytes.Clone(whole[at][:long])
				torn(t, fmt.Sprint("list ", i, ", piece ", at, " of ", long, " bytes"), pieces, api.ErrForm)
				torn(t, fmt.Sprint("list ", i, ", piece ", at, " of ", long, " bytes, the last one"), pieces[:at+1], api.ErrForm)
				pieces[at] = make([]byte, long)
				torn(t, fmt.Sprint("list ", i, ", piece ", at, " of ", long, " noughts"), pieces, api.ErrForm)
			}
		}
	}
}

// Another length than there is, in what a piece says or in its bytes, with the right sum and with the old one.
func TestJoinOfOtherLengths(t *testing.T) {
	for i, whole := range lists() {
		for at, p := range whole {
			for _, more := range []int{-256, -2, -1, 1, 2, 255, 256, 257, 65535} {
				size := len(p) - headBytes + more
				said := slices.Clone(whole)
				said[at] = bytes.Clone(p)
				said[at][1], said[at][2] = byte(size), byte(size>>8)
				name := fmt.Sprint("list ", i, ", piece ", at, ", ", more, " more")
				torn(t, name+" said", said, api.ErrForm)
				torn(t, name+" said, with its sum", summedAnew(said), api.ErrForm)
				has := slices.Clone(whole)
				if size < 0 {
					continue
				}
				has[at] = append(bytes.Clone(p), text(1, 65535)...)[:size+headBytes]
				torn(t, name+" there", has, api.ErrForm)
				torn(t, name+" there, with its sum", summedAnew(has), api.ErrForm)
			}
		}
	}
}

// A piece may be longer than Cut makes one, as its length can say so; and a later one may have no bytes of the text.
func TestJoinOfPiecesThatCutDoesNotMake(t *testing.T) {
	long := text(1, 65535)
	one, sum := plainPiece(0, 1, 65535, long)
	none, sum := plainPiece(sum, 0, 0, nil)
	again, sum := plainPiece(sum, 0, 1, []byte("x"))
	end, _ := plainPiece(sum, 2, 0, nil)
	joins(t, "all of them", [][]byte{one, none, again, end}, append(bytes.Clone(long), 'x'), 4, api.OK)
	only, _ := plainPiece(0, 3, 65535, long)
	joins(t, "the longest", [][]byte{only}, long, 1, api.OK)
	// One byte more, of which the length says nothing.
	past, _ := plainPiece(0, 3, 65536, append(bytes.Clone(long), 'x'))
	torn(t, "one that is too long", [][]byte{past}, api.ErrForm)
}

// Each mark on each piece, with the right sum and with the old one.
func TestJoinOfMarks(t *testing.T) {
	for i, whole := range lists() {
		x, _, _ := plainJoin(whole)
		for at := range whole {
			ahead := 0
			for _, p := range whole[:at+1] {
				ahead += len(p) - headBytes
			}
			for marks := range 256 {
				pieces := clonedAll(whole)
				pieces[at][0] = byte(marks)
				name := fmt.Sprint("list ", i, ", piece ", at, " with ", marks)
				right := marks == 0 || marks == 2
				if at == 0 {
					right = marks == 1 || marks == 3
				}
				anew := summedAnew(pieces)
				switch {
				case !right:
					torn(t, name, pieces, api.ErrForm)
					torn(t, name+", with its sum", anew, api.ErrForm)
				case byte(marks) == whole[at][0]:
					joins(t, name, pieces, x, len(whole), api.OK)
				default:
					torn(t, name, pieces, api.ErrSum)
				}
				if right && marks >= 2 {
					joins(t, name+", with its sum", anew, x[:ahead], at+1, api.OK)
				}
				if right && marks < 2 && at == len(whole)-1 {
					torn(t, name+", with its sum", anew, api.ErrTorn)
				}
				joinsPlainly(t, name+", with its sum", anew)
			}
		}
	}
}

// Each bit turned: in the sum and in the text the sum is another one, in the length it is another one.
func TestJoinOfTurnedBits(t *testing.T) {
	for i, whole := range lists() {
		for at, p := range whole {
			for bit := range 8 * len(p) {
				pieces := slices.Clone(whole)
				pieces[at] = bytes.Clone(p)
				pieces[at][bit/8] ^= 1 << (bit % 8)
				want := api.ErrSum
				if bit != 1 && bit < 24 { // but for the mark 2, of which the sum alone tells
					want = api.ErrForm
				}
				torn(t, fmt.Sprint("list ", i, ", piece ", at, ", bit ", bit), pieces, want)
			}
		}
	}
}

// Pieces in each order, each of them left out, and each of them twice.
func TestJoinOfOtherOrders(t *testing.T) {
	for i, whole := range lists() {
		for at := range whole {
			name := fmt.Sprint("list ", i, ", piece ", at)
			without := slices.Delete(slices.Clone(whole), at, at+1)
			twice := slices.Insert(slices.Clone(whole), at, whole[at])
			joinsPlainly(t, name+" left out", without)
			joinsPlainly(t, name+" twice", twice)
			switch last := len(whole) - 1; {
			case at == last:
				torn(t, name+" left out", without, api.ErrTorn)
			case at == 0:
				torn(t, name+" left out", without, api.ErrForm)
				torn(t, name+" twice", twice, api.ErrForm)
			default:
				torn(t, name+" left out", without, api.ErrSum)
				torn(t, name+" twice", twice, api.ErrSum)
			}
			if at > 0 {
				turned := slices.Clone(whole)
				turned[at-1], turned[at] = turned[at], turned[at-1]
				want := api.ErrSum
				if at == 1 {
					want = api.ErrForm
				}
				torn(t, name+" ahead of the one ahead", turned, want)
			}
		}
		if len(whole) <= 6 {
			orders(whole, nil, func(pieces [][]byte) { joinsPlainly(t, fmt.Sprint("list ", i, ", in another order"), pieces) })
		}
	}
}

// orders hands on each order of some pieces.
func orders(left, taken [][]byte, do func(pieces [][]byte)) {
	do(taken)
	for i := range left {
		orders(slices.Delete(slices.Clone(left), i, i+1), append(slices.Clone(taken), left[i]), do)
	}
}

// A piece of one text among those of another one: also the first one, as the next one's sum was begun with another.
func TestJoinOfMixedTexts(t *testing.T) {
	one, two := plainCut(text(1, 30), 17), plainCut(text(2, 30), 17)
	for at := range one {
		pieces := slices.Clone(one)
		pieces[at] = two[at]
		torn(t, fmt.Sprint("piece ", at, " of another text"), pieces, api.ErrSum)
	}
}

// sumFaults make a piece's sum another one, and leave its form as it is.
func sumFaults() []func(p []byte) []byte {
	return []func(p []byte) []byte{
		func(p []byte) []byte { p[3] ^= 1; return p },
		func(p []byte) []byte { p[6] ^= 128; return p },
		func(p []byte) []byte { p[0] ^= 2; return p },
	}
}

// formFaults make a piece's form another one than it may have.
func formFaults() []func(p []byte) []byte {
	return []func(p []byte) []byte{
		func(p []byte) []byte { return p[:6] },
		func(p []byte) []byte { return nil },
		func(p []byte) []byte { p[1]++; return p },
		func(p []byte) []byte { p[2] ^= 128; return p },
		func(p []byte) []byte { return append(p, 0) },
		func(p []byte) []byte { p[0] ^= 1; return p },
		func(p []byte) []byte { p[0] ^= 4; return p },
		func(p []byte) []byte { p[0] ^= 128; return p },
	}
}

// Two faults in one piece: what is wrong with its form comes ahead of its sum.
func TestJoinOfTwoFaultsInOnePiece(t *testing.T) {
	for i, whole := range lists() {
		for at := range whole {
			for x, sum := range sumFaults() {
				for y, form := range formFaults() {
					pieces := clonedAll(whole)
					pieces[at] = form(sum(pieces[at]))
					torn(t, fmt.Sprint("list ", i, ", faults ", x, " and ", y, " at ", at), pieces, api.ErrForm)
				}
			}
		}
	}
}

// Faults in two pieces, or in one ahead of those that are missing: the first one's.
func TestJoinOfFaultsInTwoPieces(t *testing.T) {
	for i, whole := range lists() {
		for first := range whole {
			for second := first + 1; second < len(whole); second++ {
				for _, sum := range sumFaults() {
					for _, form := range formFaults() {
						name := fmt.Sprint("list ", i, ", faults at ", first, " and ", second)
						pieces := clonedAll(whole)
						pieces[first], pieces[second] = sum(pieces[first]), form(pieces[second])
						torn(t, name, pieces, api.ErrSum)
						torn(t, name+", without the second one", pieces[:second], api.ErrSum)
						pieces = clonedAll(whole)
						pieces[first], pieces[second] = form(pieces[first]), sum(pieces[second])
						torn(t, name, pieces, api.ErrForm)
						torn(t, name+", without the second one", pieces[:second], api.ErrForm)
					}
				}
			}
		}
	}
}

// some are texts of several lengths, and the pieces of all of them, one behind the other.
func some(room int) (texts [][]byte, pieces [][]byte, ends []int) {
	long := room - headBytes
	for i, size := range []int{2 * long, 0, 3*long + 1, 1, long, long + 1, 0, 0, 4 * long, 1} {
		texts = append(texts, text(i*50, size))
		pieces = append(pieces, plainCut(texts[i], room)...)
		ends = append(ends, len(pieces))
	}
	return texts, pieces, ends
}

// tells tells what goes wrong where pieces are to be some texts.
func tells(t *testing.T, name string, pieces, want [][]byte, many int) {
	t.Helper()
	was := clonedAll(pieces)
	if got, n := frame.All(pieces); !slices.EqualFunc(got, want, bytes.Equal) || n != many {
		t.Errorf("%s: All = %d texts, %d, want %d texts, %d", name, len(got), n, len(want), many)
	}
	if !slices.EqualFunc(pieces, was, bytes.Equal) {
		t.Errorf("%s: All changed the pieces", name)
	}
}

// whole tells how many texts end within so many pieces, and how many pieces these have.
func whole(ends []int, many int) (texts, pieces int) {
	for _, end := range ends {
		if end <= many {
			texts, pieces = texts+1, end
		}
	}
	return texts, pieces
}

// Cut anywhere: just those texts all of whose pieces are there.
func TestAllCutAnywhere(t *testing.T) {
	for _, room := range []int{8, 9, 40, 88, 300, 65535} {
		texts, pieces, ends := some(room)
		for long := range len(pieces) + 1 {
			n, many := whole(ends, long)
			tells(t, fmt.Sprint("room ", room, ", the first ", long), pieces[:long], texts[:n], many)
			tells(t, fmt.Sprint("room ", room, ", the first ", long, ", and a nil one"), append(slices.Clone(pieces[:long]), nil), texts[:n], many)
		}
		tells(t, fmt.Sprint("room ", room, ", all"), pieces, texts, len(pieces))
	}
	tells(t, "no list", nil, nil, 0)
	tells(t, "an empty list", [][]byte{}, nil, 0)
	tells(t, "a nil piece", [][]byte{nil}, nil, 0)
}

// From a piece on: if it is a text's first one, that text and those behind it, else nothing.
func TestAllFromAPieceOn(t *testing.T) {
	for _, room := range []int{8, 9, 40, 300} {
		texts, pieces, ends := some(room)
		for from := range pieces {
			n, many := whole(ends, from)
			if many != from {
				tells(t, fmt.Sprint("room ", room, ", from ", from, " on"), pieces[from:], nil, 0)
				continue
			}
			tells(t, fmt.Sprint("room ", room, ", from ", from, " on"), pieces[from:], texts[n:], len(pieces)-from)
		}
	}
}

// A fault in each piece, and each one left out: the texts ahead of it.
func TestAllWithAFault(t *testing.T) {
	for _, room := range []int{8, 9, 40, 300} {
		texts, pieces, ends := some(room)
		for at := range pieces {
			n, many := whole(ends, at)
			for i, fault := range slices.Concat(sumFaults(), formFaults()) {
				now := clonedAll(pieces)
				now[at] = fault(now[at])
				tells(t, fmt.Sprint("room ", room, ", fault ", i, " at ", at), now, texts[:n], many)
			}
			if size := len(pieces[at]) - headBytes; size > 0 {
				now := clonedAll(pieces)
				now[at][headBytes+size-1] ^= 16
				tells(t, fmt.Sprint("room ", room, ", a bit at ", at), now, texts[:n], many)
			}
			without := slices.Delete(slices.Clone(pieces), at, at+1)
			if pieces[at][0] != 3 { // else a whole text is left out
				tells(t, fmt.Sprint("room ", room, ", without ", at), without, texts[:n], many)
			}
			joinsPlainly(t, fmt.Sprint("room ", room, ", without ", at), without)
		}
	}
}

// P17.4

// Records, cut, joined and read, are those that were put.
func TestRecordsInPieces(t *testing.T) {
	var all []sample
	var pieces [][]byte
	for i, s := range rights() {
		b, _ := frame.PutRecord(s.r)
		cut, e := frame.Cut(b, rooms()[i%len(rooms())])
		if e != api.OK {
			t.Fatalf("%s: Cut: %d", s.name, e)
		}
		all, pieces = append(all, s), append(pieces, cut...)
	}
	texts, many := frame.All(pieces)
	if len(texts) != len(all) || many != len(pieces) {
		t.Fatalf("%d texts of %d, %d pieces of %d", len(texts), len(all), many, len(pieces))
	}
	for i, b := range texts {
		reads(t, all[i].name, b, all[i].r, api.OK)
	}
}

func TestManyPieces(t *testing.T) {
	x := text(1, 1<<18)
	pieces, e := frame.Cut(x, 8)
	if len(pieces) != len(x) || e != api.OK {
		t.Fatalf("Cut of %d bytes, room 8 = %d pieces, %d", len(x), len(pieces), e)
	}
	joins(t, "many pieces", pieces, x, len(pieces), api.OK)
	torn(t, "all but one of many", pieces[:len(pieces)-1], api.ErrTorn)
	only := plainCut(nil, 8)
	if texts, n := frame.All(slices.Repeat(only, 1<<18)); len(texts) != 1<<18 || n != 1<<18 {
		t.Errorf("All of many texts: %d, %d", len(texts), n)
	}
}

// Rules

// R3: what is handed in isn't changed, and may be changed behind the call; so may what is answered.
func TestMemoryOfRecords(t *testing.T) {
	for _, s := range rights() {
		r := cloned(s.r)
		b, _ := frame.PutRecord(r)
		other, _ := frame.PutRecord(r)
		for _, c := range r.Changes {
			clear(c.Blob.Places)
		}
		clear(r.Changes)
		if !bytes.Equal(b, plain(s.r)) {
			t.Errorf("%s: PutRecord's answer goes with the record", s.name)
		}
		got, _ := frame.GetRecord(b)
		again, _ := frame.GetRecord(b)
		clear(b[:cap(b)])
		if !bytes.Equal(other, plain(s.r)) || !same(got, s.r) {
			t.Errorf("%s: two texts share bytes, or the record goes with its text", s.name)
		}
		for i := range got.Changes { // each list is one of its own
			l := got.Changes[i].Blob.Places
			_ = append(l, 1, 2, 3)
			clear(l[:cap(l)])
			got.Changes[i].Blob.Places = slices.Clone(s.r.Changes[i].Blob.Places)
			if !same(got, s.r) {
				t.Errorf("%s: the places of change %d are another one's, too", s.name, i)
			}
		}
		clear(got.Changes[:cap(got.Changes)])
		if !same(again, s.r) {
			t.Errorf("%s: two records share their lists", s.name)
		}
	}
}

func TestMemoryOfPieces(t *testing.T) {
	for _, room := range []int{8, 9, 40, 300, 65535} {
		for _, long := range lengths(room) {
			name := fmt.Sprint(long, " bytes, room ", room)
			x := text(5, long)
			all := append(bytes.Clone(x), 1, 2, 3)
			pieces, _ := frame.Cut(all[:long], room)
			others, _ := frame.Cut(all[:long], room)
			if !bytes.Equal(all, append(bytes.Clone(x), 1, 2, 3)) {
				t.Errorf("%s: Cut changed its text, or what stands behind it", name)
			}
			clear(all)
			want := plainCut(x, room)
			for i, p := range pieces { // what is appended to one stands over no other one
				_ = append(p, 1, 2, 3, 4, 5, 6, 7, 8, 9)
				clear(p[:cap(p)])
				if i+1 < len(pieces) && !bytes.Equal(pieces[i+1], want[i+1]) {
					t.Errorf("%s: pieces %d and %d share bytes", name, i, i+1)
				}
			}
			clear(pieces[:cap(pieces)])
			if !slices.EqualFunc(others, want, bytes.Equal) {
				t.Errorf("%s: pieces go with the text, or with others", name)
			}
		}
	}
}

func TestMemoryOfTexts(t *testing.T) {
	texts, pieces, ends := some(40)
	was := clonedAll(pieces)
	b, n, e := frame.Join(pieces)
	if n != ends[0] || e != api.OK {
		t.Fatalf("Join = %d, %d", n, e)
	}
	other, _, _ := frame.Join(pieces)
	all, _ := frame.All(pieces)
	again, _ := frame.All(pieces)
	clear(b[:cap(b)])
	for i, x := range all { // what is appended to one stands over no other one
		_ = append(x, 1, 2, 3)
		clear(x[:cap(x)])
		if i+1 < len(all) && !bytes.Equal(all[i+1], texts[i+1]) {
			t.Errorf("texts %d and %d share bytes", i, i+1)
		}
	}
	clear(all[:cap(all)])
	if !slices.EqualFunc(pieces, was, bytes.Equal) {
		t.Error("the pieces go with what is joined of them")
	}
	for _, p := range pieces {
		clear(p)
	}
	clear(pieces)
	if !bytes.Equal(other, texts[0]) || !slices.EqualFunc(again, texts, bytes.Equal) {
		t.Error("texts go with the pieces, or with others")
	}
}

// R8: the same call on the same arguments answers the same, whatever was called in between.
func TestSameAnswers(t *testing.T) {
	texts, pieces, _ := some(40)
	r := api.Record{Stamp: 300, Changes: changes(16)}
	for range 3 {
		if b, e := frame.PutRecord(r); !bytes.Equal(b, plain(r)) || e != api.OK {
			t.Errorf("PutRecord = %x, %d", b, e)
		}
		reads(t, "again", plain(r), r, api.OK)
		reads(t, "no bytes", nil, api.Record{}, api.ErrShort)
		cuts(t, texts[2], 40)
		tells(t, "again", pieces, texts, len(pieces))
		torn(t, "from the second on", pieces[1:], api.ErrForm)
	}
}

// R1: no call panics, whatever it is handed.
func TestNothingPanics(t *testing.T) {
	numbers := []int{math.MinInt, math.MinInt + 7, -65536, -1, 0, 1, 6, 7, 8, 9, 400, 401, 599, 600, 65535, 65536, math.MaxInt - 7, math.MaxInt}
	var blobs []api.Blob
	for _, n := range numbers {
		for _, l := range [][]int{nil, {n}, {0, n}, places(400), places(401), places(5000)} {
			blobs = append(blobs, api.Blob{Size: n, Gen: uint64(n), Places: l}, api.Blob{Places: l})
		}
	}
	for _, long := range []int{0, 1, 16, 17, 5000} {
		for _, y := range blobs {
			for _, count := range []int{0, 1, 16, 17, 300} {
				c := api.Change{Key: strings.Repeat("k", long), Dead: count == 16, Blob: y}
				r := api.Record{Stamp: y.Gen, Changes: slices.Repeat([]api.Change{c}, count)}
				frame.Right(r)
				frame.PutRecord(r)
			}
		}
	}
	for _, long := range []int{0, 1, 6, 7, 8, 100, 65535, 65542, 70000} {
		for _, fill := range []byte{0, 1, 2, 3, 17, 127, 128, 255} {
			b := bytes.Repeat([]byte{fill}, long)
			frame.GetRecord(b)
			for _, room := range numbers {
				pieces, _ := frame.Cut(b, room)
				frame.Join(pieces)
				frame.All(append(pieces, b, nil, b))
			}
			frame.Join([][]byte{b, nil, b})
			frame.All([][]byte{b})
		}
	}
}
