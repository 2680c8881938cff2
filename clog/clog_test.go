package clog_test

import (
	"bytes"
	"fmt"
	"hash/crc32"
	"math"
	"math/big"
	"reflect"
	"slices"
	"strings"
	"testing"

	"ciborium/api"
	"ciborium/array"
	"ciborium/clog"
	"ciborium/code"
	"ciborium/field"
	"ciborium/stripe"
)

// What the chapters count with, written apart from the program.
const (
	rowBytes  = 44
	headBytes = 7 // of a piece, ahead of its part of the text
	mostSlots = 64
	epochGens = 1048576       // generations of an epoch
	epochs    = 1099511627776 // 2 to 40
	longest   = 12000         // bytes of a record's text that are made here
)

// size is how many rows of data and of parity there are.
type size struct{ k, m int }

func (z size) n() int       { return z.k + z.m }
func (z size) room() int    { return rowBytes * z.k }
func (z size) part() int    { return z.room() - headBytes }
func (z size) name() string { return fmt.Sprint("k ", z.k, ", m ", z.m) }

// small are sizes of which each set of drives can be gone through.
func small() []size {
	return []size{{1, 1}, {2, 1}, {1, 2}, {3, 1}, {2, 2}, {1, 3}, {4, 1}, {3, 2}, {2, 3}, {1, 4}}
}

// middle are small sizes, and some of more drives.
func middle() []size { return append(small(), size{5, 1}, size{8, 2}, size{10, 1}, size{16, 3}) }

// some are sizes up to as many drives as there may be.
func some() []size { return append(middle(), size{1, 254}, size{254, 1}, size{127, 128}) }

// need is how many pieces a text of so many bytes is cut into, taken away one by one.
func (z size) need(long int) int {
	many := 1
	for ; long > z.part(); long -= z.part() {
		many++
	}
	return many
}

// lengths are those of texts at the edges of what up to so many pieces have room for. No record's text has fewer than two bytes.
func (z size) lengths(most int) []int {
	l := []int{2, 3, 4, 5}
	for many := 1; many <= most; many++ {
		l = append(l, many*z.part()-1, many*z.part(), many*z.part()+1)
	}
	l = slices.DeleteFunc(l, func(long int) bool { return long > longest })
	slices.Sort(l)
	return slices.Compact(l)
}

// number is a number in groups of seven bits.
func number(n uint64) []byte {
	var b []byte
	for ; n > 127; n /= 128 {
		b = append(b, byte(n%128)+128)
	}
	return append(b, byte(n))
}

// plain is a record's text, one part behind the other.
func plain(r api.Record) []byte {
	b := append(number(r.Stamp), number(uint64(len(r.Changes)))...)
	for _, c := range r.Changes {
		b = append(b, byte(len(c.Key)))
		b = append(b, c.Key...)
		if c.Dead {
			b = append(b, 1)
			continue
		}
		b = append(b, 0)
		b = append(b, number(uint64(c.Blob.Size))...)
		b = append(b, number(c.Blob.Gen)...)
		b = append(b, number(uint64(len(c.Blob.Places)))...)
		for _, place := range c.Blob.Places {
			b = append(b, number(uint64(place))...)
		}
	}
	return b
}

// pieces are a text's, each with its marks, its length, and its sum, which begins with that of the piece ahead.
func (z size) pieces(text []byte) [][]byte {
	var l [][]byte
	var sum uint32
	for len(l) == 0 || len(text) > 0 {
		part := text[:min(z.part(), len(text))]
		text = text[len(part):]
		head := []byte{0, byte(len(part)), byte(len(part) >> 8)}
		if len(l) == 0 {
			head[0]++
		}
		if len(text) == 0 {
			head[0] += 2
		}
		sum = crc32.Update(sum, crc32.MakeTable(crc32.Castagnoli), slices.Concat(head, part))
		l = append(l, slices.Concat(head, []byte{byte(sum), byte(sum >> 8), byte(sum >> 16), byte(sum >> 24)}, part))
	}
	return l
}

// all are the pieces of records, one behind the other.
func (z size) all(records ...api.Record) [][]byte {
	var l [][]byte
	for _, r := range records {
		l = append(l, z.pieces(plain(r))...)
	}
	return l
}

// change answers one that takes so many bytes, three at least.
func change(letter byte, seed, long int) api.Change {
	c := api.Change{Key: string(letter)}
	if long < 6 {
		c.Key, c.Dead = strings.Repeat(c.Key, long-2), true
		return c
	}
	left, most := long-6, 127
	if left > 2*most { // the number of places takes one byte more
		left, most = left-1, 400
	}
	c.Blob = api.Blob{Size: seed % 100, Gen: uint64(seed % 120)}
	n := min(left, most)
	for i := range n {
		place := (7*i + seed) % 128
		if i < left-n {
			place = 128 + (7*i+seed)%472
		}
		c.Blob.Places = append(c.Blob.Places, place)
	}
	return c
}

// ofLength answers a record whose text has so many bytes, and is unlike those of other seeds.
func ofLength(seed, long int) api.Record {
	var r api.Record
	switch r.Stamp = uint64(seed%120 + 1); long {
	case 2:
	case 3:
		r.Stamp += 128
	case 4:
		r.Stamp += 128 * 128
	default:
		left := long - 2
		for n := min(max(left/30, 1), 16); n > 0; n-- {
			takes := left / n
			r.Changes = append(r.Changes, change(byte('a'+len(r.Changes)), seed+n, takes))
			left -= takes
		}
	}
	if b := plain(r); len(b) != long {
		panic(fmt.Sprint("a record of ", long, " bytes has ", len(b)))
	}
	return r
}

// of are records of as many pieces, each of its own seed.
func (z size) of(needs ...int) []api.Record {
	var l []api.Record
	for i, n := range needs {
		l = append(l, ofLength(i+1, z.part()*n-i%5))
	}
	return l
}

// same tells whether two records are the same, a nil list being as an empty one.
func same(x, y api.Record) bool {
	return x.Stamp == y.Stamp && slices.EqualFunc(x.Changes, y.Changes, func(c, d api.Change) bool {
		return c.Key == d.Key && c.Dead == d.Dead && c.Blob.Size == d.Blob.Size && c.Blob.Gen == d.Blob.Gen && slices.Equal(c.Blob.Places, d.Blob.Places)
	})
}

// cloned is a record that shares nothing with another one.
func cloned(r api.Record) api.Record {
	r.Changes = slices.Clone(r.Changes)
	for i := range r.Changes {
		r.Changes[i].Blob.Places = slices.Clone(r.Changes[i].Blob.Places)
	}
	return r
}

// text answers so many bytes, each unlike those of another seed at its place.
func text(seed, long int) []byte {
	b := make([]byte, long)
	for i := range b {
		b[i] = byte(seed + 31*i + i/256)
	}
	return b
}

// bed is drives, a coder of as many rows, and where a log lies.
type bed struct {
	size
	a           *array.Array
	c           *code.Coder
	base, slots int
	epoch       uint64
}

// made answers a bed that there must be, in each of whose sectors something is stored that is no shard.
func made(t *testing.T, z size, sectors, base, slots int, epoch uint64) bed {
	t.Helper()
	b := bed{size: z, a: array.New(z.n(), sectors), c: code.New(field.New(), z.k, z.m), base: base, slots: slots, epoch: epoch}
	if b.a == nil || b.c == nil {
		t.Fatalf("no drives, or no coder, of %v and %d sectors", z, sectors)
	}
	for d := range z.n() {
		for at := range sectors {
			b.a.Write(d, at, text(7*d+3*at+1, 64))
		}
	}
	b.a.Flush()
	return b
}

// usual answers a bed of ten slots from 3 on, in the epoch 5.
func usual(t *testing.T, z size) bed {
	t.Helper()
	return made(t, z, 16, 3, 10, 5)
}

func (b bed) copy() bed {
	b.a = b.a.Copy()
	return b
}

// log answers a log that there must be.
func (b bed) log(t *testing.T) *clog.Log {
	t.Helper()
	l := clog.New(b.a, b.c, b.base, b.slots, b.epoch)
	if l == nil {
		t.Fatalf("%s: no log of %d slots from %d on, in the epoch %d", b.name(), b.slots, b.base, b.epoch)
	}
	return l
}

// ref names the stripe in a slot.
func (b bed) ref(slot int) api.Ref {
	return api.Ref{Kind: 2, Place: b.base + slot, Gen: b.epoch*epochGens + uint64(slot)}
}

// lays puts a text that must be put as a stripe of that name.
func (b bed) lays(t *testing.T, ref api.Ref, x []byte) {
	t.Helper()
	if _, e := stripe.Put(b.a, b.c, ref, x); e != api.OK {
		t.Fatalf("%s: a stripe %v of %d bytes can't be put: %d", b.name(), ref, len(x), e)
	}
}

// lay puts texts into slots, from one on.
func (b bed) lay(t *testing.T, slot int, texts ...[]byte) {
	t.Helper()
	for i, x := range texts {
		b.lays(t, b.ref(slot+i), x)
	}
}

// holds tells what goes wrong where so many slots of a log are to be used.
func (b bed) holds(t *testing.T, name string, l *clog.Log, used int) {
	t.Helper()
	if l.Used() != used || l.Left() != b.slots-used || l.Epoch() != b.epoch {
		t.Errorf("%s: Used %d, Left %d, Epoch %d, want %d, %d, %d", name, l.Used(), l.Left(), l.Epoch(), used, b.slots-used, b.epoch)
	}
	var refs []api.Ref
	for slot := range used {
		refs = append(refs, b.ref(slot))
	}
	if got := l.Refs(); !slices.Equal(got, refs) {
		t.Errorf("%s: Refs = %v, want %v", name, got, refs)
	}
}

// appends appends what must be taken.
func appends(t *testing.T, name string, l *clog.Log, records ...api.Record) {
	t.Helper()
	for i, r := range records {
		if e := l.Append(r); e != api.OK {
			t.Fatalf("%s: Append of record %d, of %d bytes = %d, with %d slots left", name, i, len(plain(r)), e, l.Left())
		}
	}
}

// refuses tells what goes wrong where a record is to be refused, and all is to be as it was.
func (b bed) refuses(t *testing.T, name string, l *clog.Log, r api.Record, want api.Errno) {
	t.Helper()
	was, used := shotOf(b.a), l.Used()
	if e := l.Append(r); e != want {
		t.Errorf("%s: Append = %d, want %d", name, e, want)
	}
	b.unchanged(t, name, was)
	b.holds(t, name, l, used)
}

// replays tells what goes wrong where these records are to be replayed, of so many pieces.
func (b bed) replays(t *testing.T, name string, want []api.Record, many int) {
	t.Helper()
	got, n := clog.Replay(b.a, b.c, b.base, b.slots, b.epoch)
	if !slices.EqualFunc(got, want, same) || n != many {
		t.Errorf("%s: Replay = %v, %d, want %v, %d", name, got, n, want, many)
	}
}

// shot is all that drives tell, so that two of them can be held against each other.
type shot struct {
	waits        []int
	dead         []bool
	read, stored [][][]byte
}

func shotOf(a *array.Array) shot {
	var s shot
	for d := range a.N() {
		s.waits = append(s.waits, a.Waits(d))
		s.dead = append(s.dead, a.Dead(d))
		var read, stored [][]byte
		for at := range a.Sectors() {
			r, _ := a.Read(d, at)
			read, stored = append(read, r), append(stored, a.Stored(d, at))
		}
		s.read, s.stored = append(s.read, read), append(s.stored, stored)
	}
	return s
}

// unchanged tells what goes wrong where drives are to be as others are, or as they were.
func (b bed) unchanged(t *testing.T, name string, drives shot) {
	t.Helper()
	if is := shotOf(b.a); !reflect.DeepEqual(is, drives) {
		t.Errorf("%s: the drives are otherwise than they should be", name)
	}
}

// home is the drive on which a shard lies.
func (b bed) home(slot, index int) int { return (b.base + slot + index) % b.n() }

// rots has a shard of a slot's stripe rot.
func (b bed) rots(slot, index int) {
	b.a.Rot(b.home(slot, index), b.base+slot, (slot*7+index*11)%61, 0x80000001)
}

// bits are n bools: number's bits, the lowest first.
func bits(number, n int) []bool {
	l := make([]bool, n)
	for i := range l {
		l[i] = number>>i&1 == 1
	}
	return l
}

// many tells how many are so.
func many(list []bool) int {
	n := 0
	for _, is := range list {
		if is {
			n++
		}
	}
	return n
}

// nobodysCoders are those that New didn't make.
func nobodysCoders() map[string]*code.Coder {
	return map[string]*code.Coder{"no coder": nil, "a coder that nobody made": {}, "a coder of no field": code.New(nil, 1, 1)}
}

// nobodysArrays are those that New didn't make.
func nobodysArrays() map[string]*array.Array {
	return map[string]*array.Array{"no array": nil, "an array that nobody made": {}, "an array of no drives": array.New(0, 9)}
}

func TestExample(t *testing.T) {
	for _, z := range some() {
		b := usual(t, z)
		b.replays(t, z.name()+", of what is no log", nil, 0)
		was := shotOf(b.a)
		b.holds(t, z.name(), b.log(t), 0)
		b.replays(t, z.name()+", an empty log", nil, 0)
		b.unchanged(t, z.name(), was)
		b.a = array.New(z.n(), 16)
		b.holds(t, z.name(), b.log(t), 0)
		b.replays(t, z.name()+", an empty log on new drives", nil, 0)
	}
}

// P18.1

// fits tells whether a log may lie there, reckoned without a bound.
func fits(sectors, base, slots int, epoch uint64) bool {
	end := new(big.Int).Add(big.NewInt(int64(base)), big.NewInt(int64(slots)))
	return base >= 0 && slots >= 1 && slots <= mostSlots && end.Cmp(big.NewInt(int64(sectors))) <= 0 && epoch < epochs
}

// bases are those at the edges of so many sectors, for each number of slots.
func bases(sectors int) []int {
	l := []int{math.MinInt, math.MinInt + 1, -1 << 32, -600, -65, -64, -2, -1, 0, 1, 2, sectors - 2, sectors - 1, sectors, sectors + 1, 1 << 32, math.MaxInt - 64, math.MaxInt - 1, math.MaxInt}
	for _, slots := range []int{1, 2, 3, 63, 64, 65} {
		l = append(l, sectors-slots-1, sectors-slots, sectors-slots+1, math.MaxInt-slots, math.MaxInt-slots+1)
	}
	slices.Sort(l)
	return slices.Compact(l)
}

// counts are numbers of slots at the edges.
func counts(sectors int) []int {
	l := []int{math.MinInt, math.MinInt + 1, -1 << 32, -65, -64, -2, -1, 0, 1, 2, 3, 62, 63, 64, 65, 66, 128, sectors - 1, sectors, sectors + 1, 1 << 32, 1<<32 + 1, math.MaxInt - 1, math.MaxInt}
	slices.Sort(l)
	return slices.Compact(l)
}

// times are epochs at the edges.
func times() []uint64 {
	return []uint64{0, 1, 2, epochGens, 1 << 32, epochs - 2, epochs - 1, epochs, epochs + 1, 1 << 44, 1<<44 + 1, 1 << 63, math.MaxUint64 - 1, math.MaxUint64}
}

// Each base with each number of slots: a log, or nil, and nothing is written.
func TestNew(t *testing.T) {
	for _, z := range []size{{1, 1}, {2, 1}, {2, 3}} {
		for _, sectors := range []int{1, 2, 3, 62, 63, 64, 65, 66, 100, 600} {
			b := made(t, z, sectors, 0, 0, 0)
			was := shotOf(b.a)
			for _, b.base = range bases(sectors) {
				for _, b.slots = range counts(sectors) {
					for _, b.epoch = range []uint64{0, 7, epochs - 1, epochs, math.MaxUint64} {
						name := fmt.Sprint(z.name(), ", ", sectors, " sectors, ", b.slots, " slots from ", b.base, " on, epoch ", b.epoch)
						l := clog.New(b.a, b.c, b.base, b.slots, b.epoch)
						if (l != nil) != fits(sectors, b.base, b.slots, b.epoch) {
							t.Errorf("%s: New = %v", name, l)
						} else if l != nil {
							b.holds(t, name, l, 0)
						}
					}
				}
			}
			b.unchanged(t, z.name(), was)
		}
	}
}

func TestNewOfEachEpoch(t *testing.T) {
	for _, z := range some() {
		b := made(t, z, 3, 1, 2, 0)
		for _, b.epoch = range times() {
			l := clog.New(b.a, b.c, b.base, b.slots, b.epoch)
			if (l != nil) != (b.epoch < epochs) {
				t.Errorf("%s: New in the epoch %d = %v", z.name(), b.epoch, l)
			} else if l != nil {
				b.holds(t, z.name(), l, 0)
			}
		}
	}
}

// As many drives as rows, one more and one fewer, and more of either.
func TestNewOnOtherDrives(t *testing.T) {
	for _, z := range some() {
		for _, n := range []int{1, 2, z.k, z.m, z.n() - 1, z.n(), z.n() + 1, 2 * z.n(), 255} {
			a := array.New(n, 16)
			if l := clog.New(a, code.New(field.New(), z.k, z.m), 3, 10, 5); (l != nil) != (a.N() == z.n()) {
				t.Errorf("%s: New on %d drives = %v", z.name(), n, l)
			}
		}
	}
}

func TestNewWithoutAnArrayOrACoder(t *testing.T) {
	a, c := array.New(2, 16), code.New(field.New(), 1, 1)
	for name, nobodysA := range nobodysArrays() {
		for _, base := range []int{-1, 0, 1} {
			for _, slots := range []int{0, 1, 10} {
				if l := clog.New(nobodysA, c, base, slots, 5); l != nil {
					t.Errorf("%s: New = %v", name, l)
				}
				for other, nobodysC := range nobodysCoders() {
					if l := clog.New(nobodysA, nobodysC, base, slots, 5); l != nil {
						t.Errorf("%s and %s: New = %v", name, other, l)
					}
					if l := clog.New(a, nobodysC, base, slots, 5); l != nil {
						t.Errorf("%s: New = %v", other, l)
					}
				}
			}
		}
	}
}

// A log may lie on drives that are dead.
func TestNewOnDeadDrives(t *testing.T) {
	b := usual(t, size{2, 1})
	for d := range 3 {
		b.a.Fail(d)
		b.holds(t, fmt.Sprint(d+1, " dead"), b.log(t), 0)
	}
}

// P18.2

// sample is a record that isn't right.
type sample struct {
	name string
	r    api.Record
}

// wrongs are records with one fault each, in one of three changes.
func wrongs() []sample {
	var l []sample
	add := func(name string, alter func(c *api.Change)) {
		for at := range 3 {
			r := api.Record{Stamp: 300, Changes: []api.Change{
				{Key: "b", Blob: api.Blob{Size: 5, Gen: 7, Places: []int{1}}},
				{Key: "d", Blob: api.Blob{Size: 6, Gen: 8, Places: []int{2, 300}}},
				{Key: "f", Blob: api.Blob{Size: 7, Gen: 1 << 20, Places: []int{3}}},
			}}
			alter(&r.Changes[at])
			l = append(l, sample{fmt.Sprint(name, ", change ", at), r})
		}
	}
	add("a key of no bytes", func(c *api.Change) { c.Key = "" })
	add("a key of 17 bytes", func(c *api.Change) { c.Key += strings.Repeat("x", 16) })
	add("a long key", func(c *api.Change) { c.Key += strings.Repeat("x", 300) })
	for _, n := range []int{-1, 401, math.MinInt, math.MaxInt} {
		add(fmt.Sprint("Size ", n), func(c *api.Change) { c.Blob.Size = n })
	}
	for _, n := range []int{-1, 600, math.MinInt, math.MaxInt} {
		add(fmt.Sprint("place ", n), func(c *api.Change) { c.Blob.Places = append(c.Blob.Places, n) })
	}
	add("401 places", func(c *api.Change) { c.Blob.Places = make([]int, 401) })
	add("dead, with Size", func(c *api.Change) { c.Dead, c.Blob = true, api.Blob{Size: 1} })
	add("dead, with Gen", func(c *api.Change) { c.Dead, c.Blob = true, api.Blob{Gen: 1} })
	add("dead, with a place", func(c *api.Change) { c.Dead, c.Blob = true, api.Blob{Places: []int{0}} })
	add("dead, with a blob", func(c *api.Change) { c.Dead = true })
	keys := func(name string, keys ...string) {
		var r api.Record
		for _, key := range keys {
			r.Changes = append(r.Changes, api.Change{Key: key, Dead: true})
		}
		l = append(l, sample{name, r})
	}
	keys("keys that fall", "b", "a")
	keys("keys that fall at the end", "a", "c", "b")
	keys("a key twice", "a", "a")
	keys("17 changes", strings.Split("abcdefghijklmnopq", "")...)
	return l
}

// edges are records at the edges of what is right.
func edges() []sample {
	long := strings.Repeat("\xff", 16)
	var full api.Record
	for i := range 16 {
		full.Changes = append(full.Changes, api.Change{Key: string(rune('a' + i)), Dead: i%2 == 0})
	}
	places := make([]int, 400)
	for i := range places {
		places[i] = 599 - i
	}
	return []sample{
		{"no changes", api.Record{}},
		{"an empty list", api.Record{Stamp: 9, Changes: []api.Change{}}},
		{"the greatest stamp", api.Record{Stamp: math.MaxUint64}},
		{"16 changes", full},
		{"keys of 1 and 16 bytes", api.Record{Stamp: 1, Changes: []api.Change{{Key: "\x00", Dead: true}, {Key: long}}}},
		{"a blob of 400 bytes and places", api.Record{Stamp: 1 << 63, Changes: []api.Change{{Key: long, Blob: api.Blob{Size: 400, Gen: math.MaxUint64, Places: places}}}}},
	}
}

// right tells what goes wrong where a record is appended that is right: how many pieces it needs, what is used, and what lies on the drives.
func right(t *testing.T, b bed, name string, r api.Record) {
	t.Helper()
	l, drives := b.log(t), b.copy()
	pieces := b.pieces(plain(r))
	drives.lay(t, 0, pieces...)
	if n := l.Need(r); n != len(pieces) {
		t.Errorf("%s: Need = %d, want %d", name, n, len(pieces))
	}
	b.holds(t, name+", behind Need", l, 0)
	appends(t, name, l, r)
	b.holds(t, name, l, len(pieces))
	b.unchanged(t, name, shotOf(drives.a))
	for slot, ref := range l.Refs() {
		if x, e := stripe.Get(b.a, b.c, ref); !bytes.Equal(x, pieces[slot]) || e != api.OK {
			t.Errorf("%s: the stripe %v is %x, %d, want %x", name, ref, x, e, pieces[slot])
		}
	}
	b.replays(t, name+", waiting", []api.Record{r}, len(pieces))
	b.a.Flush()
	b.replays(t, name+", flushed", []api.Record{r}, len(pieces))
	if n := l.Need(r); n != len(pieces) {
		t.Errorf("%s: behind Append Need = %d, want %d", name, n, len(pieces))
	}
}

func TestNeedAndAppendOfEachLength(t *testing.T) {
	for _, z := range some() {
		b := usual(t, z)
		for i, long := range z.lengths(9) {
			right(t, b.copy(), fmt.Sprint(z.name(), ", ", long, " bytes"), ofLength(i, long))
		}
	}
	b := usual(t, size{1, 1})
	for long := 2; long <= 370; long++ {
		right(t, b.copy(), fmt.Sprint(long, " bytes"), ofLength(long, long))
	}
}

func TestNeedAndAppendAtTheEdges(t *testing.T) {
	for _, z := range some() {
		b := made(t, z, 70, 6, 64, 1<<39)
		for _, s := range edges() {
			right(t, b.copy(), fmt.Sprint(z.name(), ", ", s.name), s.r)
		}
	}
}

// Need of a text of as many bytes as pieces have room for, one fewer and one more, whether there are so many slots or not.
func TestNeedOfMany(t *testing.T) {
	for _, z := range some() {
		b := made(t, z, 1, 0, 1, 0)
		l := b.log(t)
		for many := 1; many <= 70 && many*z.part() < longest; many++ {
			for more, want := range []int{many, many, many + 1} {
				if n := l.Need(ofLength(many, many*z.part()+more-1)); n != want {
					t.Errorf("%s: Need of %d pieces and %d bytes = %d", z.name(), many, more-1, n)
				}
			}
		}
	}
}

func TestNeedAndAppendOfOthers(t *testing.T) {
	for _, z := range []size{{1, 1}, {2, 1}, {16, 3}} {
		b := made(t, z, 70, 6, 64, 9)
		l := b.log(t)
		for range 2 {
			for _, s := range wrongs() {
				name := fmt.Sprint(z.name(), ", ", s.name, ", ", l.Used(), " used")
				if n := l.Need(s.r); n != 0 {
					t.Errorf("%s: Need = %d", name, n)
				}
				b.refuses(t, name, l, s.r, api.ErrArg)
			}
			appends(t, z.name(), l, z.of(1, 2)...)
		}
		b.replays(t, z.name(), append(z.of(1, 2), z.of(1, 2)...), 6)
	}
}

// The bytes stand here one by one, so that this test leans on nothing that it tests.
func TestALogByteByByte(t *testing.T) {
	b := made(t, size{1, 1}, 300, 255, 4, 3)
	was := shotOf(b.a)
	l := b.log(t)
	appends(t, "two records", l, api.Record{Stamp: 5}, api.Record{Stamp: 300, Changes: []api.Change{
		{Key: "ab", Blob: api.Blob{Size: 100, Gen: 300, Places: []int{4, 300, 5}}},
		{Key: "abcdefghijklmnop", Dead: true},
		{Key: "b2345678", Dead: true},
	}})
	one := "\xac\x02\x03\x02ab\x00\x64\xac\x02\x03\x04\xac\x02\x05\x10abcdefghijklmnop\x01\x08b23"
	two := "45678\x01"
	tells := func(sum uint32, b string) uint32 {
		return crc32.Update(sum, crc32.MakeTable(crc32.Castagnoli), []byte(b))
	}
	sums := []uint32{tells(0, "\x03\x02\x00\x05\x00"), tells(0, "\x01\x25\x00"+one), 0}
	sums[2] = tells(sums[1], "\x02\x06\x00"+two)
	heads := []string{"\x03\x02\x00", "\x01\x25\x00", "\x02\x06\x00"}
	for slot, part := range []string{"\x05\x00", one, two} {
		sum := sums[slot]
		body := slices.Concat([]byte(heads[slot]), []byte{byte(sum), byte(sum >> 8), byte(sum >> 16), byte(sum >> 24)}, []byte(part))
		for index := range 2 { // of k 1 and m 1 the parity is the data
			place := 255 + slot
			want := []byte{2, byte(index), byte(place), byte(place >> 8), byte(slot), 0, 0x30, 0, 0, 0, 0, 0, byte(len(body)), 0, 0, 0}
			want = append(append(want, body...), make([]byte, 44-len(body))...)
			s := crc32.Checksum(want, crc32.MakeTable(crc32.Castagnoli))
			want = append(want, byte(s), byte(s>>8), byte(s>>16), byte(s>>24))
			d := (place + index) % 2
			if got, _ := b.a.Read(d, place); !bytes.Equal(got, want) {
				t.Errorf("slot %d, index %d = %x, want %x", slot, index, got, want)
			}
			if got := b.a.Stored(d, place); !bytes.Equal(got, was.stored[d][place]) {
				t.Errorf("slot %d, index %d was flushed", slot, index)
			}
		}
	}
	if b.a.Waits(0) != 3 || b.a.Waits(1) != 3 {
		t.Errorf("%d and %d writes wait", b.a.Waits(0), b.a.Waits(1))
	}
	want := []api.Ref{{Kind: 2, Place: 255, Gen: 3145728}, {Kind: 2, Place: 256, Gen: 3145729}, {Kind: 2, Place: 257, Gen: 3145730}}
	if refs := l.Refs(); !slices.Equal(refs, want) || l.Used() != 3 || l.Left() != 1 || l.Epoch() != 3 {
		t.Errorf("Refs = %v, Used %d, Left %d, Epoch %d", refs, l.Used(), l.Left(), l.Epoch())
	}
}

// Records go one behind the other, until no slot is left.
func TestAppendOneBehindTheOther(t *testing.T) {
	for _, z := range some() {
		for _, b := range []bed{usual(t, z), made(t, z, 10, 0, 10, 0), made(t, z, 20, 10, 10, epochs-1)} {
			l, drives, used := b.log(t), b.copy(), 0
			var records []api.Record
			for i, long := range []int{z.part() + 1, 2, z.part(), min(4*z.part(), longest), 5, z.part()} {
				r := ofLength(i, long)
				pieces := z.pieces(plain(r))
				if used+len(pieces) > b.slots {
					b.refuses(t, z.name(), l, r, api.ErrFull)
					continue
				}
				drives.lay(t, used, pieces...)
				appends(t, z.name(), l, r)
				used += len(pieces)
				b.holds(t, z.name(), l, used)
				b.unchanged(t, z.name(), shotOf(drives.a))
				records = append(records, r)
				b.replays(t, z.name(), records, used)
				if i%2 == 0 {
					b.a.Flush()
					drives.a.Flush()
				}
			}
			if used < b.slots-4 {
				t.Errorf("%s: %d slots are used of %d", z.name(), used, b.slots)
			}
		}
	}
}

// Just as many slots are left as are needed, fewer, and none.
func TestAppendWhereSlotsAreFew(t *testing.T) {
	for _, z := range middle() {
		for need := 1; need <= 4; need++ {
			for slots := 1; slots <= 7; slots++ {
				for used := range slots + 1 {
					b := made(t, z, 12, 2, slots, 4)
					l := b.log(t)
					ones := z.of(slices.Repeat([]int{1}, used)...)
					appends(t, z.name(), l, ones...)
					name := fmt.Sprint(z.name(), ", of ", slots, " slots ", used, " used, ", need, " needed")
					r := ofLength(99, need*z.part())
					if n := l.Need(r); n != need {
						t.Errorf("%s: Need = %d", name, n)
					}
					if slots-used < need {
						b.refuses(t, name, l, r, api.ErrFull)
						b.replays(t, name, ones, used)
						continue
					}
					appends(t, name, l, r)
					b.holds(t, name, l, used+need)
					b.replays(t, name, append(ones, r), used+need)
				}
			}
		}
	}
}

// Where no slot is left even the least record is refused, and one that isn't right is ErrArg all the same.
func TestAppendWhereNoneIsLeft(t *testing.T) {
	for _, z := range []size{{1, 1}, {2, 1}, {16, 3}} {
		for _, slots := range []int{1, 2, 63, 64} {
			b := made(t, z, slots+1, 1, slots, 4)
			l := b.log(t)
			ones := z.of(slices.Repeat([]int{1}, slots)...)
			appends(t, z.name(), l, ones...)
			for _, s := range edges() {
				b.refuses(t, fmt.Sprint(z.name(), ", ", s.name), l, s.r, api.ErrFull)
			}
			for _, s := range wrongs() {
				b.refuses(t, fmt.Sprint(z.name(), ", ", s.name), l, s.r, api.ErrArg)
			}
			b.replays(t, z.name(), ones, slots)
		}
	}
}

// A record that needs more slots than a log may have is refused, and one that needs all of them is taken.
func TestAppendOfTheLongest(t *testing.T) {
	for _, z := range []size{{1, 1}, {2, 1}, {1, 3}} {
		b := made(t, z, 64, 0, 64, 4)
		for _, long := range []int{64*z.part() + 1, 65 * z.part(), longest} {
			b.refuses(t, fmt.Sprint(z.name(), ", ", long, " bytes"), b.log(t), ofLength(1, long), api.ErrFull)
		}
		b.replays(t, z.name(), nil, 0)
		right(t, b, z.name(), ofLength(2, 64*z.part()))
	}
}

// Behind one that is refused for want of slots a shorter one is taken.
func TestAppendBehindOneThatIsRefused(t *testing.T) {
	b := usual(t, size{2, 1})
	l := b.log(t)
	records := b.of(4, 3)
	appends(t, "two records", l, records...)
	b.refuses(t, "four of three left", l, ofLength(50, 3*b.part()+1), api.ErrFull)
	three := ofLength(51, 2*b.part()+1)
	appends(t, "three of three left", l, three)
	b.holds(t, "three of three left", l, 10)
	b.replays(t, "three of three left", append(records, three), 10)
}

func TestNobodysLog(t *testing.T) {
	for name, l := range map[string]*clog.Log{"no log": nil, "a log that nobody made": {}} {
		for range 2 {
			for _, s := range append(edges(), wrongs()...) {
				if n, e := l.Need(s.r), l.Append(s.r); n != 0 || e != api.ErrNil {
					t.Errorf("%s, %s: Need = %d, Append = %d", name, s.name, n, e)
				}
			}
			if refs := l.Refs(); l.Used() != 0 || l.Left() != 0 || l.Epoch() != 0 || len(refs) != 0 {
				t.Errorf("%s: Used %d, Left %d, Epoch %d, Refs %v", name, l.Used(), l.Left(), l.Epoch(), refs)
			}
		}
		if l != nil && !reflect.DeepEqual(l, &clog.Log{}) {
			t.Errorf("%s was changed", name)
		}
	}
}

// P18.3

// Lists of records of so many pieces each, in areas of as many slots, of more, at the beginning, in the middle and at the end of the drives.
func TestReplay(t *testing.T) {
	for _, z := range some() {
		for _, needs := range [][]int{{}, {1}, {2}, {3}, {1, 1}, {1, 2}, {2, 1}, {3, 1, 2}, {1, 1, 1, 1, 1, 1, 1}, {2, 2, 2, 1}, {7}} {
			if z.k > 16 {
				needs = slices.Repeat([]int{1}, len(needs)) // so long records there aren't
			}
			records, used := z.of(needs...), 0
			for _, n := range needs {
				used += n
			}
			for _, slots := range []int{max(used, 1), used + 1, 9} {
				for _, base := range []int{0, 1, 12 - slots} {
					if z.n() > 20 && base != 1 {
						continue // the others are told by fewer drives
					}
					b := made(t, z, 12, base, slots, 6)
					b.lay(t, 0, z.all(records...)...)
					name := fmt.Sprint(z.name(), ", ", needs, " in ", slots, " slots from ", base, " on")
					was := shotOf(b.a)
					b.replays(t, name+", waiting", records, used)
					b.unchanged(t, name, was)
					b.a.Flush()
					b.replays(t, name+", flushed", records, used)
				}
			}
		}
	}
}

// A log that is full up to the last slot that there may be; behind it stands what isn't its own.
func TestReplayOfAFullLog(t *testing.T) {
	for _, z := range middle() {
		b := made(t, z, 70, 3, 64, 6)
		records := z.of(slices.Repeat([]int{1}, 66)...)
		b.lay(t, 0, z.all(records...)...)
		b.replays(t, z.name()+", ones", records[:64], 64)
		b.slots = 63
		b.replays(t, z.name()+", one slot fewer", records[:63], 63)
		b.slots = 1
		b.replays(t, z.name()+", one slot", records[:1], 1)
		if z.k < 3 {
			b.slots = 64
			one := ofLength(9, 64*z.part())
			b.lay(t, 0, z.all(one)...)
			b.replays(t, z.name()+", one of 64", []api.Record{one}, 64)
			b.slots = 63
			b.replays(t, z.name()+", one of 64 in 63", nil, 0)
		}
	}
}

// Each base, number of slots and epoch: wherever New is nil nothing is told, though a stripe lies at each place that could be the first slot's.
func TestReplayWhereNewIsNil(t *testing.T) {
	r := ofLength(7, 20)
	for _, sectors := range []int{1, 2, 63, 64, 65, 100} {
		for _, epoch := range times() {
			for _, gen := range []uint64{epoch * epochGens, 0} {
				b := made(t, size{1, 1}, sectors, 0, 0, epoch)
				for place := range sectors {
					b.lays(t, api.Ref{Kind: 2, Place: place, Gen: gen}, b.all(r)[0])
				}
				was := shotOf(b.a)
				for _, b.base = range bases(sectors) {
					for _, b.slots = range counts(sectors) {
						name := fmt.Sprint(sectors, " sectors, ", b.slots, " slots from ", b.base, " on, epoch ", epoch, ", generation ", gen)
						if fits(sectors, b.base, b.slots, epoch) && gen == epoch*epochGens {
							b.replays(t, name, []api.Record{r}, 1)
						} else {
							b.replays(t, name, nil, 0)
						}
					}
				}
				b.unchanged(t, "behind Replay", was)
			}
		}
	}
}

func TestReplayWithoutAnArrayOrACoder(t *testing.T) {
	b := usual(t, size{1, 1})
	b.lay(t, 0, b.all(b.of(1, 2)...)...)
	nothing := func(name string, a *array.Array, c *code.Coder) {
		other := b
		other.a, other.c = a, c
		other.replays(t, name, nil, 0)
	}
	for name, a := range nobodysArrays() {
		nothing(name, a, b.c)
		for other, c := range nobodysCoders() {
			nothing(name+" and "+other, a, c)
		}
	}
	for name, c := range nobodysCoders() {
		nothing(name, b.a, c)
	}
	for _, z := range []size{{1, 2}, {2, 1}, {1, 3}, {254, 1}} {
		nothing("a coder of "+z.name(), b.a, code.New(field.New(), z.k, z.m))
	}
	for _, n := range []int{1, 3, 4, 255} {
		nothing(fmt.Sprint(n, " drives"), array.New(n, 16), b.c)
	}
	b.replays(t, "as it lies", b.of(1, 2), 3)
}

// harm is what is done to the stripe in a slot, so that its piece isn't told.
type harm struct {
	name string
	do   func(t *testing.T, b bed, slot int, piece []byte)
}

// named puts the piece by another name.
func named(name string, change func(ref *api.Ref)) harm {
	return harm{name, func(t *testing.T, b bed, slot int, piece []byte) {
		t.Helper()
		ref := b.ref(slot)
		change(&ref)
		b.lays(t, ref, piece)
	}}
}

// turned puts the piece otherwise.
func turned(name string, turn func(piece []byte) []byte) harm {
	return harm{name, func(t *testing.T, b bed, slot int, piece []byte) {
		t.Helper()
		b.lay(t, slot, turn(bytes.Clone(piece)))
	}}
}

// harms are those of which each by itself is enough. No piece that they are done to has fewer than nine bytes.
func harms() []harm {
	l := []harm{
		{"written over", func(t *testing.T, b bed, slot int, _ []byte) {
			for d := range b.n() {
				b.a.Write(d, b.base+slot, text(slot+d, 64))
			}
		}},
		{"one too many rotten", func(t *testing.T, b bed, slot int, _ []byte) {
			b.a.Flush()
			for index := range b.m + 1 {
				b.rots(slot, index)
			}
		}},
		turned("a piece of no bytes", func([]byte) []byte { return nil }),
		turned("a piece of six bytes", func(p []byte) []byte { return p[:6] }),
		turned("a piece of seven bytes", func(p []byte) []byte { return p[:7] }),
		turned("a byte fewer", func(p []byte) []byte { return p[:len(p)-1] }),
	}
	for kind := uint8(1); kind <= 4; kind++ {
		if kind != 2 {
			l = append(l, named(fmt.Sprint("Kind ", kind), func(ref *api.Ref) { ref.Kind = kind }))
		}
	}
	for _, by := range []uint64{1, math.MaxUint64, epochGens, -epochGens & math.MaxUint64, 2 * epochGens, 1 << 60, 1 << 63} {
		l = append(l, named(fmt.Sprint("a generation ", int64(by), " away"), func(ref *api.Ref) { ref.Gen += by }))
	}
	for bit := range 8 {
		l = append(l, turned(fmt.Sprint("mark bit ", bit), func(p []byte) []byte {
			p[0] ^= 1 << bit
			return p
		}))
	}
	for at := 1; at < 9; at++ {
		l = append(l, turned(fmt.Sprint("byte ", at), func(p []byte) []byte {
			p[at] ^= 0x10
			return p
		}))
	}
	return l
}

// ahead tells how many of the records end ahead of a slot, and how many pieces these have.
func ahead(needs []int, slot int) (records, pieces int) {
	for _, n := range needs {
		if pieces+n > slot {
			break
		}
		records, pieces = records+1, pieces+n
	}
	return records, pieces
}

// Each harm in each slot: the records that end ahead of it are told, and nothing behind.
func TestReplayUpToAFault(t *testing.T) {
	for _, z := range []size{{1, 1}, {2, 1}, {1, 2}, {3, 2}} {
		for _, needs := range [][]int{{1, 3, 2, 1, 1}, {2, 1, 1, 4}, {8}, {1, 1, 1, 1, 1, 1, 1, 1}} {
			b := usual(t, z)
			records := z.of(needs...)
			pieces := z.all(records...)
			b.lay(t, 0, pieces...)
			for slot, piece := range pieces {
				for _, h := range harms() {
					now := b.copy()
					h.do(t, now, slot, piece)
					told, many := ahead(needs, slot)
					now.replays(t, fmt.Sprint(z.name(), ", ", needs, ", slot ", slot, ": ", h.name), records[:told], many)
					now.lay(t, slot, piece)
					now.replays(t, fmt.Sprint(z.name(), ", ", needs, ", slot ", slot, ": ", h.name, ", put anew"), records, 8)
				}
			}
		}
	}
}

// Slots behind which nothing was put: a record whose last piece is missing isn't told.
func TestReplayOfPiecesCutAnywhere(t *testing.T) {
	for _, z := range middle() {
		for _, needs := range [][]int{{1, 3, 2, 1, 1}, {3, 3, 2}, {8}, {1, 1, 1, 1, 1, 1, 1, 1}} {
			records := z.of(needs...)
			pieces := z.all(records...)
			for most := range len(pieces) + 1 {
				b := usual(t, z)
				b.lay(t, 0, pieces[:most]...)
				told, many := ahead(needs, most)
				b.replays(t, fmt.Sprint(z.name(), ", ", needs, ", ", most, " slots put"), records[:told], many)
				b = usual(t, z)
				b.lay(t, 0, pieces...)
				b.slots = max(most, 1)
				told, many = ahead(needs, b.slots)
				b.replays(t, fmt.Sprint(z.name(), ", ", needs, ", ", b.slots, " slots asked"), records[:told], many)
			}
		}
	}
}

// noRecords are texts that no record has, each with another error.
func noRecords() map[string][]byte {
	return map[string][]byte{
		"no bytes":                      {},
		"a stamp alone":                 {5},
		"a stamp that ends early":       {0x85},
		"a stamp that is none":          {0x85, 0, 0},
		"17 changes":                    {5, 17},
		"a change that is missing":      {5, 1},
		"a key that is cut off":         {5, 1, 2, 'a'},
		"a key of no bytes":             {5, 1, 0, 1},
		"a key of 17 bytes":             append([]byte{5, 1, 17}, bytes.Repeat([]byte{'x'}, 18)...),
		"keys that fall":                {5, 2, 1, 'b', 1, 1, 'a', 1},
		"no byte behind a key":          {5, 1, 1, 'a'},
		"another byte behind a key":     {5, 1, 1, 'a', 2},
		"no blob":                       {5, 1, 1, 'a', 0},
		"a blob of 401 bytes":           {5, 1, 1, 'a', 0, 0x91, 3, 0, 0},
		"a place past the last sector":  {5, 1, 1, 'a', 0, 1, 0, 1, 0xd8, 4},
		"a byte left":                   {5, 1, 1, 'a', 1, 0},
		"a record behind a record":      {5, 0, 5, 0},
		"noughts as long as two pieces": make([]byte, 90),
	}
}

// A text that is no record ends the log, whatever stands behind it; its pieces aren't counted.
func TestReplayUpToNoRecord(t *testing.T) {
	for _, z := range []size{{1, 1}, {2, 1}, {1, 3}} {
		records := z.of(2, 1, 1, 2)
		for name, x := range noRecords() {
			for at := range len(records) + 1 {
				b := made(t, z, 16, 3, 11, 5)
				front := z.all(records[:at]...)
				b.lay(t, 0, slices.Concat(front, z.pieces(x), z.all(records[at:]...))...)
				b.replays(t, fmt.Sprint(z.name(), ", ", name, " behind ", at), records[:at], len(front))
			}
		}
	}
}

// Four slots with each piece of some records in each of them, or none: what is told is told by names alone.
func TestReplayOfEachMix(t *testing.T) {
	for _, z := range []size{{1, 1}, {2, 1}} {
		records := z.of(1, 2, 3)
		a, b, c := z.all(records[0]), z.all(records[1]), z.all(records[2])
		names := []string{"", "a", "b1", "b2", "c1", "c2", "c3", "x"}
		pieces := [][]byte{nil, a[0], b[0], b[1], c[0], c[1], c[2], z.pieces([]byte{5, 17})[0]}
		bare := made(t, z, 4, 0, 4, 8)
		for mix := range 8 * 8 * 8 * 8 {
			now := bare.copy()
			var list []string
			for slot := range 4 {
				which := mix >> (3 * slot) & 7
				list = append(list, names[which])
				if which > 0 {
					now.lay(t, slot, pieces[which])
				}
			}
			var want []api.Record
			many := 0
			for left := list; len(left) > 0; left = list[many:] {
				if left[0] == "a" {
					want, many = append(want, records[0]), many+1
				} else if len(left) > 1 && left[0] == "b1" && left[1] == "b2" {
					want, many = append(want, records[1]), many+2
				} else if len(left) > 2 && left[0] == "c1" && left[1] == "c2" && left[2] == "c3" {
					want, many = append(want, records[2]), many+3
				} else {
					break
				}
			}
			now.replays(t, fmt.Sprint(z.name(), ", ", list), want, many)
		}
	}
}

// What lies in other slots than its own isn't told: a log that is looked for one place further, or one place ahead.
func TestReplayFromAnotherBase(t *testing.T) {
	for _, z := range small() {
		b := usual(t, z)
		records := z.of(1, 1, 2)
		b.lay(t, 0, z.all(records...)...)
		for base := range 7 {
			now := b
			now.base = base
			if base == b.base {
				now.replays(t, z.name(), records, 4)
			} else {
				now.replays(t, fmt.Sprint(z.name(), ", base ", base), nil, 0)
			}
		}
	}
}

// P18.4

// What was appended is replayed, step by step, until nothing more fits.
func TestWhatWasAppendedIsReplayed(t *testing.T) {
	for _, z := range middle() {
		for seed := range 12 {
			b := made(t, z, 70, seed%7, 64-seed, uint64(seed)*epochs/12)
			l, used := b.log(t), 0
			var records []api.Record
			for step := range 40 {
				r := ofLength(step, 2+(step*step*37+seed*101)%min(5*z.part(), longest))
				need := z.need(len(plain(r)))
				if e := l.Append(r); (e == api.OK) != (used+need <= b.slots) || e != api.OK && e != api.ErrFull {
					t.Fatalf("%s, step %d: Append = %d, with %d of %d used, and %d needed", z.name(), step, e, used, b.slots, need)
				} else if e == api.OK {
					records, used = append(records, r), used+need
				}
				if step%3 == 0 {
					b.a.Flush()
				}
				b.holds(t, z.name(), l, used)
				if step%8 == 7 {
					b.replays(t, fmt.Sprint(z.name(), ", step ", step), records, used)
				}
			}
		}
	}
}

// keeps answers what of writes that wait is kept, told by bits: of each drive so many, in the order in which they came; and how many of each stripe are.
func (z size) keeps(set, stripes int) (lists [][]bool, there []int) {
	lists, there = make([][]bool, z.n()), make([]int, stripes)
	for d := range lists {
		lists[d] = bits(set>>(d*stripes), stripes)
		for i, is := range lists[d] {
			if is {
				there[i]++
			}
		}
	}
	return lists, there
}

// Records that were flushed, and one that wasn't: each set of its shards is kept in a crash.
func TestACrash(t *testing.T) {
	for _, z := range small() {
		for _, need := range []int{1, 2} {
			b := usual(t, z)
			l := b.log(t)
			flushed, last := z.of(1, 2, 1), ofLength(70, need*z.part())
			appends(t, z.name(), l, flushed...)
			b.a.Flush()
			appends(t, z.name(), l, last)
			for set := range 1 << (need * z.n()) {
				now := b.copy()
				lists, there := z.keeps(set, need)
				now.a.Crash(lists)
				name := fmt.Sprint(z.name(), ", kept ", lists)
				if slices.Min(there) >= z.k {
					now.replays(t, name, append(slices.Clone(flushed), last), 4+need)
				} else {
					now.replays(t, name, flushed, 4)
				}
			}
		}
	}
}

// Two records that weren't flushed: the second one is told just if both are there.
func TestACrashOfTwo(t *testing.T) {
	for _, z := range []size{{1, 1}, {2, 1}, {1, 2}, {2, 2}, {1, 3}} {
		b := usual(t, z)
		l, records := b.log(t), z.of(1, 1, 2)
		appends(t, z.name(), l, records[0])
		b.a.Flush()
		appends(t, z.name(), l, records[1:]...)
		for set := range 1 << (3 * z.n()) {
			now := b.copy()
			lists, there := z.keeps(set, 3)
			now.a.Crash(lists)
			name := fmt.Sprint(z.name(), ", kept ", lists)
			switch {
			case there[0] < z.k:
				now.replays(t, name, records[:1], 1)
			case slices.Min(there[1:]) < z.k:
				now.replays(t, name, records[:2], 2)
			default:
				now.replays(t, name, records, 4)
			}
		}
	}
}

// Each record is flushed behind its Append, all but the last ones: whatever is kept of these, the others are there, in order.
func TestCrashesAllAlong(t *testing.T) {
	for _, z := range some() {
		b := made(t, z, 40, 2, 30, 77)
		l, used := b.log(t), 0
		var records []api.Record
		for i := range 10 {
			r := ofLength(i, (i*i*29)%min(3*z.part(), longest)+2)
			appends(t, z.name(), l, r)
			for _, keep := range []bool{false, true} {
				now := b.copy()
				now.a.Crash(slices.Repeat([][]bool{slices.Repeat([]bool{keep}, 30)}, z.n()))
				if keep {
					now.replays(t, fmt.Sprint(z.name(), ", ", i, " and one"), append(slices.Clone(records), r), used+z.need(len(plain(r))))
				} else {
					now.replays(t, fmt.Sprint(z.name(), ", ", i), records, used)
				}
			}
			b.a.Flush()
			records, used = append(records, r), used+z.need(len(plain(r)))
		}
		b.a.Crash(nil)
		b.replays(t, z.name()+", all flushed", records, used)
		b.holds(t, z.name()+", all flushed", l, used)
	}
}

// A log begins anew in the same area, in another epoch, with fewer records than lie there, as many, and more.
func TestAnotherEpoch(t *testing.T) {
	for _, z := range middle() {
		for _, epoch := range []uint64{0, 1, 4, 6, epochGens + 5, 1 << 32, epochs - 1} {
			old := usual(t, z)
			records := z.of(2, 1, 1, 2)
			appends(t, z.name(), old.log(t), records...)
			old.a.Flush()
			anew := old
			anew.epoch = epoch
			l := anew.log(t)
			anew.replays(t, fmt.Sprint(z.name(), ", epoch ", epoch, ", nothing put"), nil, 0)
			old.replays(t, z.name()+", nothing put over it", records, 6)
			var others []api.Record
			used := 0
			for i, need := range []int{1, 2, 1, 1, 3, 2} {
				r := ofLength(80+i, need*z.part())
				appends(t, z.name(), l, r)
				if i%2 == 0 {
					old.a.Flush()
				}
				others, used = append(others, r), used+need
				name := fmt.Sprint(z.name(), ", epoch ", epoch, ", ", used, " slots put over it")
				anew.holds(t, name, l, used)
				anew.replays(t, name, others, used)
				old.replays(t, name+", the old one", nil, 0)
			}
		}
	}
}

// A log begins anew where another one lies, and the power goes: each of both is told as far as k shards of its stripes are there.
func TestACrashInAnotherEpoch(t *testing.T) {
	for _, z := range []size{{1, 1}, {2, 1}, {1, 2}, {2, 2}, {1, 3}} {
		old := usual(t, z)
		records, r := z.of(1, 1, 1), ofLength(90, 2*z.part())
		appends(t, z.name(), old.log(t), records...)
		old.a.Flush()
		anew := old
		anew.epoch++
		appends(t, z.name(), anew.log(t), r)
		for set := range 1 << (2 * z.n()) {
			before, after := old.copy(), anew
			after.a = before.a
			lists, there := z.keeps(set, 2)
			after.a.Crash(lists)
			name := fmt.Sprint(z.name(), ", kept ", lists)
			if slices.Min(there) >= z.k {
				after.replays(t, name, []api.Record{r}, 2)
			} else {
				after.replays(t, name, nil, 0)
			}
			switch {
			case z.n()-there[0] < z.k:
				before.replays(t, name+", the old one", nil, 0)
			case z.n()-there[1] < z.k:
				before.replays(t, name+", the old one", records[:1], 1)
			default:
				before.replays(t, name+", the old one", records, 3)
			}
		}
	}
}

// In the epoch that lies there already what a log doesn't put anew is told as before.
func TestTheSameEpoch(t *testing.T) {
	b := usual(t, size{2, 1})
	records := b.of(1, 1, 1, 1)
	appends(t, "the first", b.log(t), records...)
	l := b.log(t)
	b.holds(t, "the second", l, 0)
	b.replays(t, "the second", records, 4)
	one, two := ofLength(60, b.part()), ofLength(61, b.part()+1)
	appends(t, "the second", l, one)
	b.replays(t, "the second, of one", []api.Record{one, records[1], records[2], records[3]}, 4)
	appends(t, "the second", l, two)
	b.holds(t, "the second", l, 3)
	b.replays(t, "the second, of two", []api.Record{one, two, records[3]}, 4)
}

// Each set of drives dies: ahead of Append, in between, or behind it; or new ones stand in their stead.
func TestDeadDrives(t *testing.T) {
	for _, z := range small() {
		records := z.of(1, 2, 1)
		for set := range 1 << z.n() {
			gone := bits(set, z.n())
			for when := range 4 {
				for _, renewed := range []bool{false, true} {
					b := usual(t, z)
					l := b.log(t)
					name := fmt.Sprint(z.name(), ", gone ", gone, ", ahead of ", when, ", renewed ", renewed)
					for i := range 4 {
						for d, is := range gone {
							if is && i == when {
								b.a.Fail(d)
							}
							if is && i == 3 && renewed {
								b.a.Replace(d)
							}
						}
						if i < 3 {
							appends(t, name, l, records[i])
						}
					}
					b.holds(t, name, l, 4)
					b.a.Flush()
					b.a.Crash(nil)
					if many(gone) <= z.m {
						b.replays(t, name, records, 4)
					} else {
						b.replays(t, name, nil, 0)
					}
				}
			}
		}
	}
}

// With m drives dead it is the same: what was flushed is there, and of what wasn't all, just if k shards of each stripe were kept.
func TestACrashWithDeadDrives(t *testing.T) {
	for _, z := range []size{{1, 1}, {2, 1}, {1, 2}, {2, 2}, {1, 3}} {
		flushed, last := z.of(1, 2), ofLength(70, 2*z.part())
		for first := range z.n() {
			b := usual(t, z)
			l := b.log(t)
			appends(t, z.name(), l, flushed...)
			b.a.Flush()
			for i := range z.m {
				b.a.Fail((first + i) % z.n())
			}
			appends(t, z.name(), l, last)
			for set := range 1 << (2 * z.n()) {
				now := b.copy()
				lists, _ := z.keeps(set, 2)
				now.a.Crash(lists)
				there := [2]int{}
				for d, list := range lists {
					for i, is := range list {
						if is && !now.a.Dead(d) {
							there[i]++
						}
					}
				}
				name := fmt.Sprint(z.name(), ", dead from ", first, " on, kept ", lists)
				if min(there[0], there[1]) >= z.k {
					now.replays(t, name, append(slices.Clone(flushed), last), 5)
				} else {
					now.replays(t, name, flushed, 3)
				}
			}
		}
	}
}

// Of many drives any m may die, and one more may not.
func TestManyDeadDrives(t *testing.T) {
	for _, z := range []size{{1, 254}, {254, 1}, {127, 128}, {16, 3}, {9, 2}} {
		records := z.of(1, 1)
		b := usual(t, z)
		appends(t, z.name(), b.log(t), records...)
		b.a.Flush()
		for first := range 4 {
			now := b.copy()
			for i := range z.m {
				now.a.Fail((first*60 + i) % z.n())
			}
			now.replays(t, fmt.Sprint(z.name(), ", m dead from ", first*60, " on"), records, 2)
			now.a.Fail((first*60 + z.m) % z.n())
			now.replays(t, fmt.Sprint(z.name(), ", m + 1 dead from ", first*60, " on"), nil, 0)
		}
	}
}

// Each set of the shards of each slot rots: records that end ahead of it are told, if it is too many.
func TestRottenPlaces(t *testing.T) {
	for _, z := range small() {
		needs := []int{1, 3, 1}
		records := z.of(needs...)
		b := usual(t, z)
		appends(t, z.name(), b.log(t), records...)
		b.a.Flush()
		for slot := range 5 {
			for set := range 1 << z.n() {
				now, gone := b.copy(), bits(set, z.n())
				for index, is := range gone {
					if is {
						now.rots(slot, index)
					}
				}
				name := fmt.Sprint(z.name(), ", slot ", slot, ", rotten ", gone)
				if many(gone) <= z.m {
					now.replays(t, name, records, 5)
				} else {
					told, pieces := ahead(needs, slot)
					now.replays(t, name, records[:told], pieces)
				}
			}
		}
	}
}

// Each slot's stripe loses as many shards as may be, of other drives each; then one of them loses one more.
func TestEachSlotAtItsWorst(t *testing.T) {
	for _, z := range middle() {
		needs := []int{2, 1, 3, 1}
		records := z.of(needs...)
		b := usual(t, z)
		appends(t, z.name(), b.log(t), records...)
		b.a.Flush()
		for slot := range 7 {
			for lost := range z.m {
				b.rots(slot, (slot*3+lost)%z.n())
			}
		}
		b.replays(t, z.name(), records, 7)
		for slot := range 7 {
			now := b.copy()
			now.rots(slot, (slot*3+z.m)%z.n())
			told, pieces := ahead(needs, slot)
			now.replays(t, fmt.Sprint(z.name(), ", slot ", slot), records[:told], pieces)
		}
	}
}

// Rules

// R3: the record that is handed in isn't changed, and may be changed behind the call; of its lists their lengths alone count.
func TestMemoryOfWhatIsHandedIn(t *testing.T) {
	for _, z := range small() {
		b := usual(t, z)
		l := b.log(t)
		all := []api.Change{{Key: "a", Blob: api.Blob{Size: 7, Gen: 9, Places: []int{3, 300, 600, -1}[:2]}}, {Key: "b", Dead: true}, {Key: "a"}}
		r := api.Record{Stamp: 4, Changes: all[:2]}
		was, behind := cloned(r), cloned(api.Record{Changes: all})
		if n := l.Need(r); n != 1 {
			t.Errorf("%s: Need = %d", z.name(), n)
		}
		appends(t, z.name(), l, r)
		if !same(r, was) || !same(api.Record{Changes: all}, behind) || !slices.Equal(all[0].Blob.Places[:4], []int{3, 300, 600, -1}) {
			t.Errorf("%s: the record was changed, or what stands behind its lists", z.name())
		}
		clear(all[0].Blob.Places[:4])
		clear(all)
		b.replays(t, z.name(), []api.Record{was}, 1)
		b.holds(t, z.name(), l, 1)
	}
}

// spoil changes all that a list of records holds.
func spoil(records []api.Record) {
	for _, r := range records[:cap(records)] {
		for _, c := range r.Changes[:cap(r.Changes)] {
			clear(c.Blob.Places[:cap(c.Blob.Places)])
		}
		clear(r.Changes[:cap(r.Changes)])
	}
	clear(records[:cap(records)])
}

// R3: what Refs and Replay answer may be changed, and nothing else changes by that.
func TestMemoryOfWhatIsAnswered(t *testing.T) {
	for _, z := range small() {
		b := usual(t, z)
		l, records := b.log(t), z.of(2, 1, 3)
		appends(t, z.name(), l, records...)
		drives := shotOf(b.a)
		refs, more := l.Refs(), l.Refs()
		clear(refs[:cap(refs)])
		if !slices.Equal(more, l.Refs()) {
			t.Errorf("%s: two answers of Refs share memory", z.name())
		}
		b.holds(t, z.name(), l, 6)
		one, _ := clog.Replay(b.a, b.c, b.base, b.slots, b.epoch)
		two, _ := clog.Replay(b.a, b.c, b.base, b.slots, b.epoch)
		spoil(one)
		if !slices.EqualFunc(two, records, same) {
			t.Errorf("%s: two answers of Replay share memory", z.name())
		}
		// No two lists of one answer share any, either.
		for i := range two {
			spoil(two[i : i+1 : i+1])
			if !slices.EqualFunc(two[i+1:], records[i+1:], same) {
				t.Errorf("%s: two records of one answer share memory", z.name())
			}
		}
		b.unchanged(t, z.name(), drives)
		b.replays(t, z.name(), records, 6)
		appends(t, z.name(), l, ofLength(50, z.part()))
		b.replays(t, z.name(), append(records, ofLength(50, z.part())), 7)
	}
}

// R8: the same calls on the same arguments answer the same, and looks change nothing.
func TestSameAnswers(t *testing.T) {
	for _, z := range small() {
		one := usual(t, z)
		two := one.copy()
		l, other := one.log(t), two.log(t)
		for i, r := range z.of(2, 1, 3, 4, 5, 1) {
			for range 3 {
				l.Need(r)
				l.Need(wrongs()[i].r)
				l.Used()
				l.Left()
				l.Epoch()
				l.Refs()
				clog.Replay(one.a, one.c, one.base, one.slots, one.epoch)
			}
			if e, f := l.Append(r), other.Append(r); e != f || l.Used() != other.Used() || !slices.Equal(l.Refs(), other.Refs()) {
				t.Errorf("%s, record %d: Append = %d, and %d", z.name(), i, e, f)
			}
			two.unchanged(t, z.name(), shotOf(one.a))
		}
	}
}

// R4: two logs know nothing of one another, side by side on the same drives or on others.
func TestTwoLogs(t *testing.T) {
	for _, z := range small() {
		b := made(t, z, 24, 2, 10, 5)
		beside := b
		beside.base, beside.slots = 12, 12
		l, other := b.log(t), beside.log(t)
		records := z.of(1, 2, 3, 4, 2, 3, 1, 2)
		appends(t, z.name(), l, records[0])
		appends(t, z.name(), other, records[1])
		appends(t, z.name(), l, records[2])
		b.holds(t, z.name(), l, 4)
		beside.holds(t, z.name()+", beside", other, 2)
		appends(t, z.name(), other, records[3])
		b.replays(t, z.name(), []api.Record{records[0], records[2]}, 4)
		beside.replays(t, z.name()+", beside", []api.Record{records[1], records[3]}, 6)
		away := b.copy()
		third := away.log(t)
		appends(t, z.name(), third, records[5])
		b.holds(t, z.name()+", and one away", l, 4)
		b.replays(t, z.name()+", and one away", []api.Record{records[0], records[2]}, 4)
		away.replays(t, z.name()+", away", []api.Record{records[5]}, 3)
	}
}

// R1: no call panics, whatever it is handed.
func TestNothingPanics(t *testing.T) {
	f := field.New()
	dead := array.New(3, 9)
	for d := range 3 {
		dead.Fail(d)
	}
	arrays := []*array.Array{nil, {}, array.New(1, 1), array.New(2, 600), array.New(2, 3), array.New(3, 9), dead, array.New(255, 3)}
	coders := []*code.Coder{nil, {}, code.New(f, 1, 1), code.New(f, 2, 1), code.New(f, 1, 2), code.New(f, 254, 1), code.New(f, 1, 254), code.New(nil, 1, 1), code.New(f, 0, 0)}
	numbers := []int{math.MinInt, math.MinInt + 1, -65536, -1, 0, 1, 2, 3, 8, 9, 63, 64, 65, 536, 599, 600, 65536, math.MaxInt - 64, math.MaxInt - 1, math.MaxInt}
	records := []api.Record{ofLength(1, longest), ofLength(2, 400)}
	for _, s := range append(edges(), wrongs()...) {
		records = append(records, s.r)
	}
	uses := func(l *clog.Log) {
		for _, r := range records {
			l.Need(r)
			l.Append(r)
		}
		l.Used()
		l.Left()
		l.Epoch()
		l.Refs()
	}
	uses(nil)
	uses(&clog.Log{})
	for _, a := range arrays {
		for _, c := range coders {
			for _, base := range numbers {
				for _, slots := range numbers {
					for _, epoch := range []uint64{0, 5, epochs - 1, epochs, math.MaxUint64} {
						if l := clog.New(a, c, base, slots, epoch); l != nil && (c.N() < 100 || epoch == 5) {
							uses(l)
						}
						clog.Replay(a, c, base, slots, epoch)
					}
				}
			}
		}
	}
}
