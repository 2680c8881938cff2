package super_test

import (
	"bytes"
	"encoding/binary"
	"fmt"
	"hash/crc32"
	"math"
	"math/rand"
	"reflect"
	"slices"
	"testing"

	"ciborium/api"
	"ciborium/array"
	"ciborium/code"
	"ciborium/field"
	"ciborium/stripe"
	"ciborium/super"
)

// What the chapters count with, written apart from the program.
const (
	rowBytes    = 44
	sectorBytes = 64
	nameBytes   = 16
	epochGens   = 1048576       // generations of an epoch
	epochs      = 1099511627776 // 2 to 40
	mostEpoch   = 1<<44 - 1     // that a shard's eight bytes may tell
)

// size is how many rows of data and of parity there are.
type size struct{ k, m int }

func (z size) n() int       { return z.k + z.m }
func (z size) room() int    { return rowBytes * z.k }
func (z size) name() string { return fmt.Sprint("k ", z.k, ", m ", z.m) }

// small are sizes of which each set of drives can be gone through.
func small() []size {
	return []size{{1, 1}, {2, 1}, {1, 2}, {3, 1}, {2, 2}, {1, 3}, {4, 1}, {3, 2}, {2, 3}, {1, 4}}
}

// least are those of up to four drives.
func least() []size { return small()[:6] }

// middle are small sizes, and some of more drives.
func middle() []size { return append(small(), size{5, 1}, size{8, 2}, size{10, 1}, size{16, 3}) }

// some are sizes up to as many drives as there may be.
func some() []size { return append(middle(), size{1, 254}, size{254, 1}, size{127, 128}) }

// places are numbers of slots, of which 0 and 1 alone are some.
func places() []int {
	return []int{math.MinInt, math.MinInt + 1, -1 << 32, -65536, -256, -2, -1, 0, 1, 2, 3, 255, 256, 257, 599, 600, 65536, 65537, 1 << 32, 1<<32 + 1, math.MaxInt - 1, math.MaxInt}
}

// times are epochs at the edges.
func times() []uint64 {
	return []uint64{0, 1, 2, epochGens - 1, epochGens, 1 << 32, epochs - 2, epochs - 1, epochs, epochs + 1, mostEpoch - 1, mostEpoch, 1 << 44, 1<<44 + 1, 1 << 63, math.MaxUint64 - 1, math.MaxUint64}
}

// rightTimes are those of times that a head may have.
func rightTimes() []uint64 {
	return slices.DeleteFunc(times(), func(epoch uint64) bool { return epoch >= epochs })
}

// begins answers a scroll that is unlike those of other seeds below 600.
func begins(seed int) api.Scroll {
	return api.Scroll{Place: seed % 600, Gen: uint64(seed) * 0x0102030405060708, Count: (seed*7 + 1) % 65536, Size: seed*seed*31 + 5}
}

// of answers a head of an epoch, unlike those of others.
func of(epoch uint64) api.Super {
	return api.Super{Epoch: epoch, Scroll: begins(int(epoch%509) + 3)}
}

// plainName is a scroll's name, number by number.
func plainName(s api.Scroll) []byte {
	b := binary.LittleEndian.AppendUint16(nil, uint16(s.Place))
	b = binary.LittleEndian.AppendUint64(b, s.Gen)
	b = binary.LittleEndian.AppendUint16(b, uint16(s.Count))
	return binary.LittleEndian.AppendUint32(b, uint32(s.Size))
}

// cut is what of a scroll stands in its name.
func cut(s api.Scroll) api.Scroll {
	return api.Scroll{Place: int(uint16(s.Place)), Gen: s.Gen, Count: int(uint16(s.Count)), Size: int(uint32(s.Size))}
}

// mark is what a shard says of itself.
type mark struct {
	kind, index, place int
	gen                uint64
	size               int
}

// sector is a shard's bytes.
func sector(x mark, body []byte) []byte {
	b := []byte{byte(x.kind), byte(x.index), byte(x.place), byte(x.place >> 8)}
	b = binary.LittleEndian.AppendUint64(b, x.gen)
	b = append(b, byte(x.size), byte(x.size>>8), 0, 0)
	b = append(append(b, body...), make([]byte, rowBytes-len(body))...)
	return summed(b)
}

// summed are bytes with their sum behind them.
func summed(b []byte) []byte {
	return binary.LittleEndian.AppendUint32(b, crc32.Checksum(b, crc32.MakeTable(crc32.Castagnoli)))
}

// read reads a shard's bytes; false of what is none.
func read(b []byte) (mark, bool) {
	if len(b) != sectorBytes || !bytes.Equal(summed(slices.Clone(b[:60])), b) || b[0] < 1 || b[0] > 4 || b[14] != 0 || b[15] != 0 {
		return mark{}, false
	}
	return mark{
		kind:  int(b[0]),
		index: int(b[1]),
		place: int(binary.LittleEndian.Uint16(b[2:])),
		gen:   binary.LittleEndian.Uint64(b[4:]),
		size:  int(binary.LittleEndian.Uint16(b[12:])),
	}, true
}

// text answers so many bytes, each unlike those of another seed at its place.
func text(seed, long int) []byte {
	b := make([]byte, long)
	for i := range b {
		b[i] = byte(seed + 31*i + i/256)
	}
	return b
}

// bed is drives, and a coder of as many rows.
type bed struct {
	size
	a *array.Array
	c *code.Coder
}

// made answers a bed that there must be, in each of whose sectors something is stored that is no shard.
func made(t *testing.T, z size, sectors int) bed {
	t.Helper()
	b := bed{size: z, a: array.New(z.n(), sectors), c: code.New(field.New(), z.k, z.m)}
	if b.a == nil || b.c == nil {
		t.Fatalf("no drives, or no coder, of %v and %d sectors", z, sectors)
	}
	for d := range z.n() {
		for at := range sectors {
			b.a.Write(d, at, text(7*d+3*at+1, sectorBytes))
		}
	}
	b.a.Flush()
	return b
}

func (b bed) copy() bed {
	b.a = b.a.Copy()
	return b
}

// home is the drive on which a shard of a slot's stripe lies.
func (b bed) home(slot, index int) int { return (slot + index) % b.n() }

// puts puts a head that must be put.
func (b bed) puts(t *testing.T, name string, slot int, s api.Super) {
	t.Helper()
	if e := super.Put(b.a, b.c, slot, s); e != api.OK {
		t.Fatalf("%s: Put in slot %d of %v = %d", name, slot, s, e)
	}
}

// shards are the sectors of a stripe's shards, by index: those of a text, with what they are to say of themselves.
func (b bed) shards(t *testing.T, x mark, text []byte) [][]byte {
	t.Helper()
	data, e := b.c.Split(text, rowBytes)
	rows, f := b.c.All(data)
	if e != api.OK || f != api.OK {
		t.Fatalf("%s: no rows of %d bytes: %d, %d", b.size.name(), len(text), e, f)
	}
	for x.index = range rows {
		rows[x.index] = sector(x, rows[x.index])
	}
	return rows
}

// lays writes those of a text's shards that set has into the sectors of a slot, each to its drive.
func (b bed) lays(t *testing.T, slot int, x mark, text []byte, set []bool) {
	t.Helper()
	for index, sector := range b.shards(t, x, text) {
		if set[index] {
			b.a.Write(b.home(slot, index), slot, sector)
		}
	}
}

// heads writes a head's shards that set has, as lays does.
func (b bed) heads(t *testing.T, slot int, s api.Super, set []bool) {
	t.Helper()
	b.lays(t, slot, mark{kind: 1, place: slot, gen: s.Epoch * epochGens, size: nameBytes}, plainName(s.Scroll), set)
}

// all are n bools that are so.
func all(n int) []bool { return slices.Repeat([]bool{true}, n) }

// bits are n bools: number's bits, the lowest first.
func bits(number, n int) []bool {
	l := make([]bool, n)
	for i := range l {
		l[i] = number>>i&1 == 1
	}
	return l
}

// many tells how many are so.
func many(list []bool) int {
	n := 0
	for _, is := range list {
		if is {
			n++
		}
	}
	return n
}

// got tells whether a slot's stripe of a generation is got, with a text of 16 bytes, by its shards that are counted.
func (b bed) got(slot int, gen uint64) bool {
	whole, size := 0, -1
	for index := range b.n() {
		sector, _ := b.a.Read(b.home(slot, index), slot)
		x, is := read(sector)
		if !is || x.kind != 1 || x.place != slot || x.gen != gen || x.index != index || x.size > b.room() {
			continue
		}
		if size < 0 {
			size = x.size
		}
		if x.size == size {
			whole++
		}
	}
	return whole >= b.k && size == nameBytes
}

// newest is the epoch of the head that is to be got in a slot, gone through all shards there one by one.
func (b bed) newest(slot int) (epoch uint64, is bool) {
	for d := range b.n() {
		sector, _ := b.a.Read(d, slot)
		x, right := read(sector)
		if right && x.gen%epochGens == 0 && (!is || x.gen/epochGens > epoch) && b.got(slot, x.gen) {
			epoch, is = x.gen/epochGens, true
		}
	}
	return epoch, is
}

// gets tells what goes wrong where a head is to be got in a slot.
func (b bed) gets(t *testing.T, name string, slot int, want api.Super) {
	t.Helper()
	if s, e := super.Get(b.a, b.c, slot); s != want || e != api.OK {
		t.Errorf("%s: Get of slot %d = %v, %d, want %v", name, slot, s, e, want)
	}
}

// getsNone tells what goes wrong where none is to be got, with this error.
func (b bed) getsNone(t *testing.T, name string, slot int, want api.Errno) {
	t.Helper()
	if s, e := super.Get(b.a, b.c, slot); s != (api.Super{}) || e != want {
		t.Errorf("%s: Get of slot %d = %v, %d, want %d", name, slot, s, e, want)
	}
}

// finds tells what goes wrong where a head is to be found, in a slot.
func (b bed) finds(t *testing.T, name string, want api.Super, slot int) {
	t.Helper()
	if s, at, e := super.Find(b.a, b.c); s != want || at != slot || e != api.OK {
		t.Errorf("%s: Find = %v, %d, %d, want %v, %d", name, s, at, e, want, slot)
	}
}

// findsNone tells what goes wrong where none is to be found, with this error.
func (b bed) findsNone(t *testing.T, name string, want api.Errno) {
	t.Helper()
	if s, at, e := super.Find(b.a, b.c); s != (api.Super{}) || at != 0 || e != want {
		t.Errorf("%s: Find = %v, %d, %d, want %d", name, s, at, e, want)
	}
}

// holds tells what goes wrong where shards stand that heads of these epochs, and others, left: of Get, Find and Seen.
func (b bed) holds(t *testing.T, name string) {
	t.Helper()
	var is [2]bool
	var newest [2]uint64
	for slot := range 2 {
		if newest[slot], is[slot] = b.newest(slot); is[slot] {
			b.gets(t, name, slot, of(newest[slot]))
		} else {
			b.getsNone(t, name, slot, api.ErrBlank)
		}
	}
	switch {
	case !is[0] && !is[1]:
		b.findsNone(t, name, api.ErrBlank)
	case !is[1] || is[0] && newest[0] >= newest[1]:
		b.finds(t, name, of(newest[0]), 0)
	default:
		b.finds(t, name, of(newest[1]), 1)
	}
	b.sees(t, name, b.plainSeen())
}

// plainSeen is the greatest epoch of any shard, gone through all sectors one by one.
func (b bed) plainSeen() uint64 {
	most := uint64(0)
	for d := range b.a.N() {
		for at := range b.a.Sectors() {
			sector, _ := b.a.Read(d, at)
			if x, is := read(sector); is {
				most = max(most, x.gen/epochGens)
			}
		}
	}
	return most
}

// sees tells what goes wrong where this epoch is to be the greatest.
func (b bed) sees(t *testing.T, name string, want uint64) {
	t.Helper()
	if epoch := super.Seen(b.a); epoch != want {
		t.Errorf("%s: Seen = %d, want %d", name, epoch, want)
	}
}

// shot is all that drives tell, so that two of them can be held against each other.
type shot struct {
	waits        []int
	dead         []bool
	read, stored [][][]byte
}

func shotOf(a *array.Array) shot {
	var s shot
	for d := range a.N() {
		s.waits = append(s.waits, a.Waits(d))
		s.dead = append(s.dead, a.Dead(d))
		var read, stored [][]byte
		for at := range a.Sectors() {
			r, _ := a.Read(d, at)
			read, stored = append(read, r), append(stored, a.Stored(d, at))
		}
		s.read, s.stored = append(s.read, read), append(s.stored, stored)
	}
	return s
}

// unchanged tells what goes wrong where drives are to be as others are, or as they were.
func unchanged(t *testing.T, name string, a *array.Array, drives shot) {
	t.Helper()
	if is := shotOf(a); !reflect.DeepEqual(is, drives) {
		t.Errorf("%s: the drives are otherwise than they should be", name)
	}
}

// rots has a shard of a slot's stripe rot.
func (b bed) rots(slot, index int) {
	b.a.Rot(b.home(slot, index), slot, (slot*7+index*11)%61, 0x80000001)
}

// nobodysCoders are those that New didn't make.
func nobodysCoders() map[string]*code.Coder {
	return map[string]*code.Coder{"no coder": nil, "a coder that nobody made": {}, "a coder of no field": code.New(nil, 1, 1), "a coder of no data": code.New(field.New(), 0, 1)}
}

// nobodysArrays are those that New didn't make.
func nobodysArrays() map[string]*array.Array {
	return map[string]*array.Array{"no array": nil, "an array that nobody made": {}, "an array of no drives": array.New(0, 9), "an array of no sectors": array.New(2, 0)}
}

func TestExample(t *testing.T) {
	for _, z := range some() {
		for slot := range 2 {
			for first := range 2 {
				b := made(t, z, 3)
				four, five := of(4), of(5)
				for i := range 2 {
					if i == first {
						b.puts(t, z.name(), slot, four)
					} else {
						b.puts(t, z.name(), 1-slot, five)
					}
				}
				b.finds(t, z.name(), five, 1-slot)
				b.a.Flush()
				b.a.Crash(nil)
				b.finds(t, z.name()+", flushed", five, 1-slot)
				b.gets(t, z.name(), slot, four)
				b.gets(t, z.name(), 1-slot, five)
				b.sees(t, z.name(), 5)
			}
		}
	}
}

// P19.1

func TestRef(t *testing.T) {
	for _, slot := range places() {
		for _, epoch := range times() {
			want := api.Ref{}
			if (slot == 0 || slot == 1) && epoch < epochs {
				want = api.Ref{Kind: 1, Place: slot, Gen: epoch * epochGens}
			}
			if ref := super.Ref(slot, epoch); ref != want {
				t.Errorf("Ref(%d, %d) = %v, want %v", slot, epoch, ref, want)
			}
		}
	}
	for epoch := uint64(1); epoch < epochs; epoch *= 2 {
		for _, near := range []uint64{epoch - 1, epoch, epoch + 1} {
			if ref := super.Ref(1, near); ref != (api.Ref{Kind: 1, Place: 1, Gen: near << 20}) && near < epochs {
				t.Errorf("Ref(1, %d) = %v", near, ref)
			}
		}
	}
	if ref := super.Ref(1, 2); ref != (api.Ref{Kind: 1, Place: 1, Gen: 2097152}) {
		t.Errorf("Ref(1, 2) = %v", ref)
	}
}

// fault is why a head can't stand there, by the page; of Put the epoch counts, too.
func fault(a *array.Array, c *code.Coder, slot int) api.Errno {
	switch {
	case a.N() == 0 || c.N() == 0:
		return api.ErrNil
	case slot != 0 && slot != 1, a.N() != c.N(), a.Sectors() <= slot:
		return api.ErrArg
	}
	return api.OK
}

// sites are arrays of few and of many drives and sectors, some with dead drives.
func sites(z size) []*array.Array {
	l := []*array.Array{nil, {}, array.New(0, 2), array.New(z.n(), 0)}
	for _, n := range []int{z.n() - 1, z.n(), z.n() + 1, z.k, z.m, 255} {
		for _, sectors := range []int{1, 2, 3} {
			a := array.New(n, sectors)
			l = append(l, a)
			if a.N() == z.n() {
				dead := a.Copy()
				dead.Fail(0)
				gone := a.Copy()
				for d := range n {
					gone.Fail(d)
				}
				l = append(l, dead, gone)
			}
		}
	}
	return l
}

func TestErrors(t *testing.T) {
	for _, z := range append(small(), size{16, 3}, size{127, 128}) {
		coders := []*code.Coder{nil, {}, code.New(nil, z.k, z.m), code.New(field.New(), z.k, z.m)}
		for i, a := range sites(z) {
			for j, c := range coders {
				was := shotOf(a)
				name := fmt.Sprint(z.name(), ", array ", i, ", coder ", j, ", ", a.N(), " drives of ", a.Sectors(), " sectors")
				refused, taken := a.Copy(), a.Copy()
				for _, slot := range places() {
					want := fault(a, c, slot)
					for _, epoch := range times() {
						over, put := refused, want
						if want == api.OK && epoch >= epochs {
							put = api.ErrArg
						} else if want == api.OK {
							over = taken
						}
						if e := super.Put(over, c, slot, of(epoch)); e != put {
							t.Errorf("%s: Put in slot %d of the epoch %d = %d, want %d", name, slot, epoch, e, put)
						}
					}
					if want == api.OK {
						want = api.ErrBlank // as nothing was put
					}
					bed{z, a, c}.getsNone(t, name, slot, want)
				}
				if want := fault(a, c, 1); want == api.OK {
					bed{z, a, c}.findsNone(t, name, api.ErrBlank)
				} else {
					bed{z, a, c}.findsNone(t, name, want)
				}
				unchanged(t, name, a, was)
				unchanged(t, name+", refused", refused, was)
			}
		}
	}
}

// Without an array or a coder the error is ErrNil, whatever else is wrong.
func TestWithoutAnArrayOrACoder(t *testing.T) {
	a, c := array.New(2, 9), code.New(field.New(), 1, 1)
	ask := func(name string, a *array.Array, c *code.Coder) {
		was := shotOf(a)
		for _, slot := range places() {
			for _, epoch := range times() {
				if e := super.Put(a, c, slot, of(epoch)); e != api.ErrNil {
					t.Errorf("%s: Put in slot %d of the epoch %d = %d", name, slot, epoch, e)
				}
			}
			bed{size{1, 1}, a, c}.getsNone(t, name, slot, api.ErrNil)
		}
		bed{size{1, 1}, a, c}.findsNone(t, name, api.ErrNil)
		unchanged(t, name, a, was)
	}
	for name, nobodysA := range nobodysArrays() {
		ask(name, nobodysA, c)
		for other, nobodysC := range nobodysCoders() {
			ask(name+" and "+other, nobodysA, nobodysC)
			ask(other, a, nobodysC)
		}
	}
}

// Where a head can't be put or got a head that is there stays as it is.
func TestErrorsBesideAHead(t *testing.T) {
	for _, z := range middle() {
		b := made(t, z, 2)
		b.puts(t, z.name(), 0, of(7))
		b.puts(t, z.name(), 1, of(6))
		was := shotOf(b.a)
		for _, slot := range []int{math.MinInt, -1, 2, math.MaxInt} {
			if e := super.Put(b.a, b.c, slot, of(9)); e != api.ErrArg {
				t.Errorf("%s: Put in slot %d = %d", z.name(), slot, e)
			}
			b.getsNone(t, z.name(), slot, api.ErrArg)
		}
		for _, epoch := range []uint64{epochs, epochs + 1, math.MaxUint64} {
			for slot := range 2 {
				if e := super.Put(b.a, b.c, slot, of(epoch)); e != api.ErrArg {
					t.Errorf("%s: Put of the epoch %d = %d", z.name(), epoch, e)
				}
			}
		}
		other := bed{z, b.a, code.New(field.New(), z.k+1, z.m)}
		for slot := range 2 {
			if e := super.Put(other.a, other.c, slot, of(9)); e != api.ErrArg {
				t.Errorf("%s: Put with a coder of one row more = %d", z.name(), e)
			}
			other.getsNone(t, z.name(), slot, api.ErrArg)
		}
		other.findsNone(t, z.name(), api.ErrArg)
		unchanged(t, z.name(), b.a, was)
		b.finds(t, z.name(), of(7), 0)
	}
}

// A head is a stripe in its place, and what was stored is stored yet.
func TestPut(t *testing.T) {
	for _, z := range some() {
		for _, sectors := range []int{1, 2, 3, 600} {
			if sectors > 3 && z.n() > 20 {
				continue
			}
			for slot := range min(2, sectors) {
				for _, epoch := range rightTimes() {
					b := made(t, z, sectors)
					was := b.copy()
					plain := b.copy()
					s := of(epoch)
					name := fmt.Sprint(z.name(), ", ", sectors, " sectors, slot ", slot, ", epoch ", epoch)
					b.puts(t, name, slot, s)
					plain.heads(t, slot, s, all(z.n()))
					unchanged(t, name, b.a, shotOf(plain.a))
					ref := api.Ref{Kind: 1, Place: slot, Gen: epoch * epochGens}
					if x, e := stripe.Get(b.a, b.c, ref); !bytes.Equal(x, plainName(s.Scroll)) || e != api.OK {
						t.Errorf("%s: the stripe %v is %x, %d", name, ref, x, e)
					}
					if super.Ref(slot, epoch) != ref {
						t.Errorf("%s: Ref = %v, want %v", name, super.Ref(slot, epoch), ref)
					}
					b.gets(t, name+", waiting", slot, s)
					b.a.Crash(nil)
					unchanged(t, name+", behind a crash", b.a, shotOf(was.a))
				}
			}
		}
	}
}

// Of a scroll's numbers the lowest bytes stand in its name.
func TestPutOfEachScroll(t *testing.T) {
	numbers := []int{math.MinInt, -1 << 32, -65536, -1, 0, 1, 255, 256, 599, 600, 65535, 65536, 65537, 1<<31 - 1, 1 << 31, 1<<32 - 1, 1 << 32, 1<<32 + 258, math.MaxInt}
	gens := []uint64{0, 1, epochGens, 1 << 59, 1 << 60, math.MaxUint64}
	for _, z := range []size{{1, 1}, {2, 1}, {2, 3}, {16, 3}} {
		b := made(t, z, 2)
		for i, n := range numbers {
			for j, gen := range gens {
				for _, s := range []api.Scroll{
					{Place: n, Gen: gen, Count: 2, Size: 3}, {Place: 1, Gen: gen, Count: n, Size: 3}, {Place: 1, Gen: gen, Count: 2, Size: n}, {Place: n, Gen: gen, Count: n, Size: n},
				} {
					slot := (i + j) % 2
					b.puts(t, z.name(), slot, api.Super{Epoch: 5, Scroll: s})
					b.gets(t, fmt.Sprint(z.name(), ", ", s), slot, api.Super{Epoch: 5, Scroll: cut(s)})
					if x, _ := stripe.Get(b.a, b.c, super.Ref(slot, 5)); !bytes.Equal(x, plainName(s)) {
						t.Errorf("%s: the name of %v is %x, want %x", z.name(), s, x, plainName(s))
					}
				}
			}
		}
	}
}

// by is a byte times another one in the field, bit by bit.
func by(x, y byte) byte {
	p := byte(0)
	for ; y > 0; y >>= 1 {
		if y&1 == 1 {
			p ^= x
		}
		high := x >> 7
		x = x<<1 ^ 29*high
	}
	return p
}

// The bytes stand here one by one, so that this test leans on nothing that it tests.
func TestAHeadByteByByte(t *testing.T) {
	s := api.Super{Epoch: 0x0102030405, Scroll: api.Scroll{Place: 258, Gen: 0x1112131415161718, Count: 772, Size: 0x21222324}}
	name := []byte{2, 1, 0x18, 0x17, 0x16, 0x15, 0x14, 0x13, 0x12, 0x11, 4, 3, 0x24, 0x23, 0x22, 0x21}
	parity := slices.Clone(name) // of k 2 and m 1 the parity's factor of the first data row is 1 / 2
	for i := range parity {
		parity[i] = by(142, name[i])
	}
	rows := map[size][][]byte{{1, 1}: {name, name}, {2, 1}: {name, nil, parity}, {1, 2}: {name, name, nil}, {3, 1}: {name, nil, nil, nil}}
	for z, texts := range rows {
		for slot := range 2 {
			b := made(t, z, 2)
			was := shotOf(b.a)
			b.puts(t, z.name(), slot, s)
			for index, x := range texts {
				if x == nil && index >= z.k {
					continue // other factors, which are layer 5's
				}
				// Gen is 0x0102030405 times 2 to 20.
				want := []byte{1, byte(index), byte(slot), 0, 0, 0, 0x50, 0x40, 0x30, 0x20, 0x10, 0, 16, 0, 0, 0}
				want = append(append(want, x...), make([]byte, 44-len(x))...)
				sum := crc32.Checksum(want, crc32.MakeTable(crc32.Castagnoli))
				want = append(want, byte(sum), byte(sum>>8), byte(sum>>16), byte(sum>>24))
				d := (slot + index) % z.n()
				if got, _ := b.a.Read(d, slot); !bytes.Equal(got, want) {
					t.Errorf("%s: slot %d, index %d = %x, want %x", z.name(), slot, index, got, want)
				}
			}
			for d := range z.n() {
				if b.a.Waits(d) != 1 || !bytes.Equal(b.a.Stored(d, slot), was.stored[d][slot]) {
					t.Errorf("%s: slot %d, of drive %d %d writes wait, and %x is stored", z.name(), slot, d, b.a.Waits(d), b.a.Stored(d, slot))
				}
				if got, _ := b.a.Read(d, 1-slot); !bytes.Equal(got, was.read[d][1-slot]) {
					t.Errorf("%s: slot %d was written, too", z.name(), 1-slot)
				}
			}
			b.gets(t, z.name(), slot, s)
			b.finds(t, z.name(), s, slot)
			b.sees(t, z.name(), s.Epoch)
		}
	}
}

// Drives that are dead take nothing, and a head is put all the same.
func TestPutOnDeadDrives(t *testing.T) {
	for _, z := range small() {
		for set := range 1 << z.n() {
			gone := bits(set, z.n())
			b := made(t, z, 2)
			for d, is := range gone {
				if is {
					b.a.Fail(d)
				}
			}
			plain := b.copy()
			name := fmt.Sprint(z.name(), ", gone ", gone)
			b.puts(t, name, 1, of(8))
			plain.heads(t, 1, of(8), all(z.n()))
			unchanged(t, name, b.a, shotOf(plain.a))
			if many(gone) <= z.m {
				b.gets(t, name, 1, of(8))
				b.finds(t, name, of(8), 1)
			} else {
				b.getsNone(t, name, 1, api.ErrBlank)
				b.findsNone(t, name, api.ErrBlank)
			}
		}
	}
}

// P19.2

func TestNoHead(t *testing.T) {
	for _, z := range some() {
		b := made(t, z, 4)
		b.holds(t, z.name()+", no shards")
		b.a = array.New(z.n(), 2)
		b.holds(t, z.name()+", noughts")
		for place := 2; place < 4; place++ { // heads where none are looked for
			b = made(t, z, 4)
			for at := range 4 {
				b.lays(t, at, mark{kind: 1, place: place, gen: 9 * epochGens, size: nameBytes}, plainName(begins(9)), all(z.n()))
			}
			b.holds(t, fmt.Sprint(z.name(), ", heads of place ", place))
			b.findsNone(t, z.name(), api.ErrBlank)
			b.sees(t, z.name(), 9)
		}
		for d := range z.n() {
			b.a.Fail(d)
		}
		b.holds(t, z.name()+", all dead")
	}
}

// A head of which so many shards stand: k, one more and one fewer, and each set of few.
func TestGetOfSoManyShards(t *testing.T) {
	for _, z := range some() {
		for slot := range 2 {
			for _, there := range []int{0, 1, z.k - 1, z.k, z.k + 1, z.n() - 1, z.n()} {
				for first := 0; first < z.n(); first += 1 + z.n()/7 {
					b := made(t, z, 2)
					set := make([]bool, z.n())
					for i := range there {
						set[(first+i)%z.n()] = true
					}
					b.heads(t, slot, of(30), set)
					name := fmt.Sprint(z.name(), ", slot ", slot, ", ", there, " shards from ", first, " on")
					if there >= z.k {
						b.gets(t, name, slot, of(30))
						b.finds(t, name, of(30), slot)
					} else {
						b.getsNone(t, name, slot, api.ErrBlank)
						b.findsNone(t, name, api.ErrBlank)
					}
					b.getsNone(t, name, 1-slot, api.ErrBlank)
				}
			}
		}
	}
	for _, z := range small() {
		for set := range 1 << z.n() {
			b := made(t, z, 2)
			b.heads(t, 1, of(31), bits(set, z.n()))
			b.holds(t, fmt.Sprint(z.name(), ", there ", bits(set, z.n())))
			b.a.Flush()
			b.holds(t, fmt.Sprint(z.name(), ", flushed ", bits(set, z.n())))
		}
	}
}

// Heads of different epochs in one slot, one behind the other, of each of which some writes are lost.
func TestGetBehindLostWrites(t *testing.T) {
	for _, z := range least() {
		for _, order := range [][]uint64{{4, 5, 6}, {6, 5, 4}, {5, 6, 4}, {0, 1, 0}, {epochs - 2, 3, epochs - 1}} {
			for slot := range 2 {
				if z.n() == 4 && slot != len(order)%2 {
					continue
				}
				first := made(t, z, 2)
				for set := range 1 << (3 * z.n()) {
					b := first.copy()
					for i, epoch := range order {
						b.puts(t, z.name(), slot, of(epoch))
						var keep [][]bool
						for _, is := range bits(set>>(i*z.n()), z.n()) {
							keep = append(keep, []bool{is})
						}
						b.a.Crash(keep)
					}
					b.holds(t, fmt.Sprint(z.name(), ", slot ", slot, ", epochs ", order, ", kept ", bits(set, 3*z.n())))
				}
			}
		}
	}
}

// Heads of different epochs in one slot, while drives are dead, and are renewed again.
func TestGetBehindDeadDrives(t *testing.T) {
	for _, z := range small() {
		for _, order := range [][]uint64{{4, 5, 6}, {6, 5, 4}, {5, 6, 4}} {
			for sets := range 1 << (2 * z.n()) {
				b := made(t, z, 2)
				name := fmt.Sprint(z.name(), ", epochs ", order, ", dead ", bits(sets, 2*z.n()))
				for i, epoch := range order {
					b.puts(t, name, 1, of(epoch))
					b.holds(t, name)
					b.a.Flush()
					for d, is := range bits(sets>>(i*z.n()), z.n()) {
						if b.a.Dead(d) {
							b.a.Replace(d)
						}
						if is && i < 2 {
							b.a.Fail(d)
						}
					}
					b.holds(t, name)
				}
			}
		}
	}
}

// A head over which a greater one's shards lie, of each set: the greater one, if it is got, else the lesser one, if that is.
func TestGetWhereTheGreatestIsNotGot(t *testing.T) {
	for _, z := range middle() {
		for there := range z.n() + 1 {
			for slot := range 2 {
				b := made(t, z, 2)
				b.heads(t, slot, of(20), all(z.n()))
				set := make([]bool, z.n())
				for i := range there {
					set[(i+slot)%z.n()] = true
				}
				b.heads(t, slot, of(21), set)
				name := fmt.Sprint(z.name(), ", slot ", slot, ", ", there, " shards of the greater one")
				switch {
				case there >= z.k:
					b.gets(t, name, slot, of(21))
				case z.n()-there >= z.k:
					b.gets(t, name, slot, of(20))
				default:
					b.getsNone(t, name, slot, api.ErrBlank)
				}
				b.holds(t, name)
			}
		}
	}
}

// Each shard is of another generation: with one data row each of them is a head's, and the greatest is got.
func TestGetOfManyGenerations(t *testing.T) {
	for _, z := range []size{{1, 4}, {1, 20}, {1, 254}, {2, 9}, {16, 3}, {2, 253}, {127, 128}} {
		b := made(t, z, 2)
		for slot := range 2 {
			for index := range z.n() {
				set := make([]bool, z.n())
				set[index] = true
				b.heads(t, slot, of(uint64((index*37+slot)%z.n()+1)), set)
			}
		}
		b.holds(t, z.name())
		if z.k == 1 {
			b.finds(t, z.name(), of(uint64(z.n())), 0)
		} else {
			b.findsNone(t, z.name(), api.ErrBlank)
		}
		// The lesser ones are got, if the greater ones have 15 bytes.
		for slot := range 2 {
			for index := range z.n() - 1 {
				set := make([]bool, z.n())
				set[index] = true
				b.lays(t, slot, mark{kind: 1, place: slot, gen: uint64(index+300) * epochGens, size: 15}, make([]byte, 15), set)
			}
		}
		b.holds(t, z.name()+", of 15 bytes")
	}
}

// harm is a stripe that is no head, though it is newer than one.
type harm struct {
	name string
	x    mark
	text []byte
}

// harms are such stripes of a slot, each of its own epoch.
func (b bed) harms(slot int) []harm {
	var l []harm
	add := func(name string, kind, place int, count uint64, long int) {
		epoch := uint64(len(l) + 100)
		l = append(l, harm{name, mark{kind: kind, place: place, gen: epoch*epochGens + count, size: long}, text(len(l), min(long, b.room()))})
	}
	for _, count := range []uint64{1, 2, 255, 256, 65536, 1 << 19, epochGens - 1} {
		add(fmt.Sprint("count ", count), 1, slot, count, nameBytes)
	}
	for kind := 2; kind <= 4; kind++ {
		add(fmt.Sprint("kind ", kind), kind, slot, 0, nameBytes)
	}
	for _, place := range []int{1 - slot, 2, 3, slot + 256, slot + 512, 65535} {
		add(fmt.Sprint("place ", place), 1, place, 0, nameBytes)
	}
	for _, long := range []int{0, 1, 14, 15, 17, 18, 32, 44, 45, b.room(), b.room() + 1, 16 + 256, 65535} {
		if long > b.room() || long != nameBytes {
			add(fmt.Sprint("Size ", long), 1, slot, 0, long)
		}
	}
	return l
}

// A stripe that is no head stands where one is looked for: alone, and beside a head.
func TestGetOfOthers(t *testing.T) {
	for _, z := range middle() {
		for slot := range 2 {
			for _, h := range made(t, z, 2).harms(slot) {
				for there := range z.n() + 1 {
					b := made(t, z, 2)
					set := make([]bool, z.n())
					for i := range there {
						set[i] = true
					}
					name := fmt.Sprint(z.name(), ", slot ", slot, ", ", h.name, ", ", there, " shards")
					b.lays(t, slot, h.x, h.text, set)
					b.getsNone(t, name, slot, api.ErrBlank)
					b.findsNone(t, name, api.ErrBlank)
					b.heads(t, slot, of(50), all(z.n()))
					b.lays(t, slot, h.x, h.text, set)
					if z.n()-there >= z.k {
						b.gets(t, name, slot, of(50))
						b.finds(t, name, of(50), slot)
					} else {
						b.getsNone(t, name, slot, api.ErrBlank)
					}
					b.holds(t, name)
				}
			}
		}
	}
}

// Texts of each length, of which 16 bytes alone are a head's.
func TestGetOfEachLength(t *testing.T) {
	for _, z := range []size{{1, 1}, {2, 1}, {1, 2}, {3, 2}, {5, 1}} {
		for long := range z.room() + 1 {
			b := made(t, z, 2)
			ref := super.Ref(1, 40)
			if _, e := stripe.Put(b.a, b.c, ref, text(5, long)); e != api.OK {
				t.Fatalf("%s: no stripe of %d bytes: %d", z.name(), long, e)
			}
			if long != nameBytes {
				b.getsNone(t, fmt.Sprint(z.name(), ", ", long, " bytes"), 1, api.ErrBlank)
				continue
			}
			x := text(5, long)
			b.gets(t, z.name(), 1, api.Super{Epoch: 40, Scroll: api.Scroll{
				Place: int(binary.LittleEndian.Uint16(x)),
				Gen:   binary.LittleEndian.Uint64(x[2:]),
				Count: int(binary.LittleEndian.Uint16(x[10:])),
				Size:  int(binary.LittleEndian.Uint32(x[12:])),
			}})
		}
	}
}

// Each drive has one of several things in a slot's sector, in all ways.
func TestGetOfEachMix(t *testing.T) {
	for _, z := range []size{{1, 1}, {2, 1}, {1, 2}, {2, 2}, {3, 1}} {
		for slot := range 2 {
			first := made(t, z, 2)
			usual := func(epoch uint64) [][]byte {
				return first.shards(t, mark{kind: 1, place: slot, gen: epoch * epochGens, size: nameBytes}, plainName(of(epoch).Scroll))
			}
			choices := [][][]byte{nil, usual(4), usual(6),
				first.shards(t, mark{kind: 1, place: slot, gen: 7*epochGens + 1, size: nameBytes}, plainName(begins(7))),
				first.shards(t, mark{kind: 3, place: slot, gen: 8 * epochGens, size: nameBytes}, plainName(begins(8))),
				first.shards(t, mark{kind: 1, place: 1 - slot, gen: 9 * epochGens, size: nameBytes}, plainName(begins(9))),
				first.shards(t, mark{kind: 1, place: slot, gen: 5 * epochGens, size: 15}, make([]byte, 15)),
				first.shards(t, mark{kind: 1, place: slot, gen: 6 * epochGens, size: 17}, plainName(of(6).Scroll)),
				slices.Concat(usual(10)[1:], usual(10)[:1]), // on other drives than theirs
			}
			ways := int(math.Pow(float64(len(choices)), float64(z.n())))
			for way := range ways {
				b := first.copy()
				left := way
				for index := range z.n() {
					if shards := choices[left%len(choices)]; shards != nil {
						b.a.Write(b.home(slot, index), slot, shards[index])
					}
					left /= len(choices)
				}
				b.holds(t, fmt.Sprint(z.name(), ", slot ", slot, ", way ", way))
			}
		}
	}
}

// The epochs of both slots' heads: the greater one is found, and slot 0's of two that are the same.
func TestFind(t *testing.T) {
	for _, z := range some() {
		first := made(t, z, 2)
		for _, one := range rightTimes() {
			for _, other := range rightTimes() {
				b := first.copy()
				zero, first := of(one), of(other)
				first.Scroll.Size++ // so that heads of one epoch are unlike
				name := fmt.Sprint(z.name(), ", epochs ", one, " and ", other)
				b.puts(t, name, 0, zero)
				b.finds(t, name+", slot 0 alone", zero, 0)
				b.puts(t, name, 1, first)
				if one >= other {
					b.finds(t, name, zero, 0)
				} else {
					b.finds(t, name, first, 1)
				}
				b.gets(t, name, 0, zero)
				b.gets(t, name, 1, first)
				for index := range z.n() {
					b.a.Write(b.home(0, index), 0, make([]byte, sectorBytes))
				}
				b.finds(t, name+", slot 1 alone", first, 1)
				b.getsNone(t, name, 0, api.ErrBlank)
			}
		}
	}
}

// Of one sector there is a slot 0, but nothing is found.
func TestOneSector(t *testing.T) {
	for _, z := range middle() {
		b := made(t, z, 1)
		b.puts(t, z.name(), 0, of(3))
		b.gets(t, z.name(), 0, of(3))
		b.getsNone(t, z.name(), 1, api.ErrArg)
		b.findsNone(t, z.name(), api.ErrArg)
		b.sees(t, z.name(), 3)
	}
}

// Both slots have whatever there may be, thrown together by a plain rule.
func TestGetAndFindOfEachThing(t *testing.T) {
	for _, z := range middle() {
		r := rand.New(rand.NewSource(int64(z.k*100 + z.m)))
		for round := range 300 {
			b := made(t, z, 4)
			for range 1 + r.Intn(6) {
				slot, set := r.Intn(2), make([]bool, z.n())
				for i := range set {
					set[i] = r.Intn(3) > 0
				}
				if harms := b.harms(slot); r.Intn(3) == 0 {
					h := harms[r.Intn(len(harms))]
					b.lays(t, slot, h.x, h.text, set)
				} else {
					b.heads(t, slot, of(uint64(r.Intn(8)+r.Intn(2)*1000)), set)
				}
				switch d := r.Intn(z.n()); r.Intn(8) {
				case 0:
					b.a.Fail(d)
				case 1:
					b.a.Replace(d)
				case 2:
					b.a.Flush()
				case 3:
					b.a.Rot(d, slot, r.Intn(61), 1)
				}
			}
			b.holds(t, fmt.Sprint(z.name(), ", round ", round))
		}
	}
}

// Whether a generation is past those that Gen makes isn't asked: its epoch is what it tells.
func TestGetOfGenerationsPastTheLast(t *testing.T) {
	for _, z := range small() {
		for _, epoch := range []uint64{epochs, epochs + 1, mostEpoch} {
			b := made(t, z, 2)
			b.puts(t, z.name(), 0, of(7))
			b.heads(t, 1, of(epoch), all(z.n()))
			b.holds(t, fmt.Sprint(z.name(), ", epoch ", epoch))
			b.gets(t, z.name(), 1, of(epoch))
			b.finds(t, z.name(), of(epoch), 1)
			b.sees(t, z.name(), epoch)
		}
	}
}

// P19.3

func TestSeenOfNothing(t *testing.T) {
	for name, a := range nobodysArrays() {
		bed{a: a}.sees(t, name, 0)
	}
	for _, z := range some() {
		b := made(t, z, 3)
		b.sees(t, z.name()+", no shards", 0)
		b.a = array.New(z.n(), 600)
		b.sees(t, z.name()+", noughts", 0)
		for d := range z.n() {
			b.a.Fail(d)
		}
		b.sees(t, z.name()+", all dead", 0)
	}
}

// One shard, of each kind, place and epoch, in each sector of each drive.
func TestSeenOfOne(t *testing.T) {
	for _, z := range []size{{1, 1}, {2, 1}, {2, 3}} {
		first := made(t, z, 5)
		for d := range z.n() {
			for at := range 5 {
				for i, epoch := range append(rightTimes(), epochs, mostEpoch-1, mostEpoch) {
					for kind := 1; kind <= 4; kind++ {
						b := first.copy()
						place := []int{0, 1, 2, at, 600, 65535}[(i+kind)%6]
						count := []uint64{0, 1, epochGens - 1}[(i+at)%3]
						b.a.Write(d, at, sector(mark{kind: kind, index: (i * 40) % 256, place: place, gen: epoch*epochGens + count, size: i * 4000}, text(i, 44)))
						name := fmt.Sprint(z.name(), ", drive ", d, ", sector ", at, ", kind ", kind)
						b.sees(t, name, epoch)
						lost := b.copy()
						lost.a.Crash(nil)
						lost.sees(t, name+", lost", 0)
						b.a.Flush()
						b.sees(t, name+", flushed", epoch)
						b.a.Rot(d, at, (i*7+kind)%61, 1<<(i%32))
						b.sees(t, name+", rotten", 0)
					}
				}
			}
		}
	}
}

// What is no shard isn't asked for its epoch.
func TestSeenOfWhatIsNoShard(t *testing.T) {
	right := sector(mark{kind: 1, gen: 9 * epochGens, size: nameBytes}, nil)
	wrong := map[string][]byte{}
	for _, kind := range []byte{0, 5, 6, 128, 255} {
		b := slices.Clone(right[:60])
		b[0] = kind
		wrong[fmt.Sprint("kind ", kind)] = summed(b)
	}
	for at := 14; at < 16; at++ {
		b := slices.Clone(right[:60])
		b[at] = 1
		wrong[fmt.Sprint("no nought at ", at)] = summed(b)
	}
	for bit := range 8 * sectorBytes {
		b := slices.Clone(right)
		b[bit/8] ^= 1 << (bit % 8)
		wrong[fmt.Sprint("bit ", bit)] = b
	}
	b := made(t, size{2, 1}, 3)
	b.a.Write(0, 1, sector(mark{kind: 4, gen: 6 * epochGens}, nil))
	for name, x := range wrong {
		b.a.Write(2, 2, x)
		b.sees(t, name, 6)
	}
	b.a.Write(2, 2, right)
	b.sees(t, "a shard", 9)
}

// Many shards: the greatest epoch counts, wherever it stands, as long as its drive is there.
func TestSeenOfMany(t *testing.T) {
	for _, z := range []size{{1, 1}, {2, 1}, {2, 3}, {16, 3}, {127, 128}} {
		b := made(t, z, 7)
		for d := range z.n() {
			for at := range 7 {
				if (d+at)%3 > 0 {
					epoch := uint64((d*7919+at*104729)%100003) << (d % 20)
					b.a.Write(d, at, sector(mark{kind: 1 + (d+at)%4, index: d, place: at, gen: epoch*epochGens + uint64(at)}, nil))
				}
			}
		}
		b.sees(t, z.name(), b.plainSeen())
		b.a.Flush()
		for d := range z.n() {
			b.sees(t, fmt.Sprint(z.name(), ", ahead of ", d, " dead"), b.plainSeen())
			b.a.Fail((d * 2) % z.n())
			b.a.Fail(d)
		}
		b.sees(t, z.name()+", all dead", 0)
	}
}

// The last sector of the last drive of as many as there may be.
func TestSeenAtTheEnd(t *testing.T) {
	a := array.New(255, 600)
	bed{a: a}.sees(t, "noughts", 0)
	a.Write(254, 599, sector(mark{kind: 4, gen: 3*epochGens + 5}, nil))
	bed{a: a}.sees(t, "the last sector", 3)
	a.Write(0, 0, sector(mark{kind: 2, gen: 4 * epochGens}, nil))
	bed{a: a}.sees(t, "the first one, too", 4)
}

// Shards of stripes of all kinds, as they are put.
func TestSeenOfStripes(t *testing.T) {
	for _, z := range small() {
		b := made(t, z, 9)
		b.puts(t, z.name(), 0, of(2))
		b.sees(t, z.name(), 2)
		b.puts(t, z.name(), 1, of(1))
		b.sees(t, z.name(), 2)
		for kind := 1; kind <= 4; kind++ {
			stripe.Put(b.a, b.c, api.Ref{Kind: uint8(kind), Place: 2 + kind, Gen: uint64(kind+2)*epochGens + 77}, nil)
			b.sees(t, fmt.Sprint(z.name(), ", kind ", kind), uint64(kind+2))
		}
		stripe.Put(b.a, b.c, api.Ref{Kind: 4, Place: 6, Gen: 5}, nil)
		b.sees(t, z.name()+", the greatest written over", 5)
	}
}

// P19.4

// crash takes the power away, with the writes of a slot's shards kept that set has, by drive.
func (b bed) crash(set []bool) {
	keep := make([][]bool, b.n())
	for d := range keep {
		keep[d] = []bool{set[d]}
	}
	b.a.Crash(keep)
}

// begun answers a bed with a head of an epoch that was flushed, and of another one, which is put and waits, if the drives that gone has are dead by then.
func begun(t *testing.T, z size, slot int, gone []bool) bed {
	t.Helper()
	b := made(t, z, 2)
	b.puts(t, z.name(), slot, of(11))
	b.a.Flush()
	for d, is := range gone {
		if is {
			b.a.Fail(d)
		}
	}
	b.puts(t, z.name(), 1-slot, of(12))
	return b
}

// Each set of the new head's shards is kept: it is found, just if k of them were.
func TestACrash(t *testing.T) {
	for _, z := range append(small(), size{6, 2}, size{3, 5}) {
		for slot := range 2 {
			b := begun(t, z, slot, nil)
			for set := range 1 << z.n() {
				now := b.copy()
				now.crash(bits(set, z.n()))
				name := fmt.Sprint(z.name(), ", slot ", slot, ", kept ", bits(set, z.n()))
				if many(bits(set, z.n())) >= z.k {
					now.finds(t, name, of(12), 1-slot)
				} else {
					now.finds(t, name, of(11), slot)
					now.getsNone(t, name, 1-slot, api.ErrBlank)
				}
				now.gets(t, name, slot, of(11))
				now.holds(t, name)
			}
		}
	}
}

// Each set of drives is dead: ahead of the new head's Put, ahead of the crash, or behind it.
func TestACrashWithDeadDrives(t *testing.T) {
	for _, z := range small() {
		for lost := range 1 << z.n() {
			gone := bits(lost, z.n())
			for when := range 3 {
				slot := (lost + when) % 2
				ahead := gone
				if when > 0 {
					ahead = nil
				}
				b := begun(t, z, slot, ahead)
				for set := range 1 << z.n() {
					now := b.copy()
					if when == 1 {
						now.dies(gone)
					}
					now.crash(bits(set, z.n()))
					if when == 2 {
						now.dies(gone)
					}
					name := fmt.Sprint(z.name(), ", slot ", slot, ", dead ", gone, " at ", when, ", kept ", bits(set, z.n()))
					switch {
					case many(bits(set&^lost, z.n())) >= z.k:
						now.finds(t, name, of(12), 1-slot)
					case many(gone) <= z.m:
						now.finds(t, name, of(11), slot)
					default:
						now.findsNone(t, name, api.ErrBlank)
					}
				}
			}
		}
	}
}

// dies has the drives that gone has die.
func (b bed) dies(gone []bool) {
	for d, is := range gone {
		if is {
			b.a.Fail(d)
		}
	}
}

// Of many drives any m may die, and one more may not.
func TestManyDeadDrives(t *testing.T) {
	for _, z := range []size{{1, 254}, {254, 1}, {127, 128}, {16, 3}, {9, 2}} {
		for first := range 4 {
			b := begun(t, z, first%2, nil)
			for i := range z.m {
				b.a.Fail((first*60 + i) % z.n())
			}
			lost, kept := b.copy(), b.copy()
			lost.a.Crash(nil)
			kept.crash(all(z.n()))
			name := fmt.Sprint(z.name(), ", m dead from ", first*60, " on")
			lost.finds(t, name, of(11), first%2)
			kept.finds(t, name, of(12), 1-first%2)
			for _, now := range []bed{lost, kept} {
				now.a.Fail((first*60 + z.m) % z.n())
				now.findsNone(t, name+", and one more", api.ErrBlank)
			}
		}
	}
}

// Each set of both heads' shards rots: the newer one of those of which k are left is found.
func TestRottenPlaces(t *testing.T) {
	for _, z := range least() {
		for slot := range 2 {
			b := begun(t, z, slot, nil)
			b.a.Flush()
			for set := range 1 << (2 * z.n()) {
				now, gone := b.copy(), [2][]bool{bits(set, z.n()), bits(set>>z.n(), z.n())}
				for index := range z.n() {
					for at := range 2 {
						if gone[at][index] {
							now.rots(at, index)
						}
					}
				}
				name := fmt.Sprint(z.name(), ", slot ", slot, ", rotten ", gone)
				switch {
				case many(gone[1-slot]) <= z.m:
					now.finds(t, name, of(12), 1-slot)
				case many(gone[slot]) <= z.m:
					now.finds(t, name, of(11), slot)
				default:
					now.findsNone(t, name, api.ErrBlank)
				}
			}
		}
	}
}

// Heads go into one slot and the other by turns, for long; each behind a crash that keeps what it likes.
func TestHeadsByTurns(t *testing.T) {
	for _, z := range some() {
		b := made(t, z, 2)
		was, at := of(1), 0
		b.puts(t, z.name(), 0, was)
		b.a.Flush()
		for epoch := uint64(2); epoch < 60; epoch++ {
			set := make([]bool, z.n())
			for i := range int(epoch*7) % (z.n() + 1) {
				set[(i*3+int(epoch))%z.n()] = true
			}
			b.puts(t, z.name(), 1-at, of(epoch))
			b.finds(t, z.name()+", waiting", of(epoch), 1-at)
			b.crash(set)
			name := fmt.Sprint(z.name(), ", epoch ", epoch)
			if many(set) >= z.k {
				was, at = of(epoch), 1-at
			}
			b.finds(t, name, was, at)
			if many(set) > 0 {
				b.sees(t, name, epoch)
			}
			b.holds(t, name)
			// What is found is put again on all drives, as one that is behind a crash is mended.
			b.puts(t, name, at, was)
			b.a.Flush()
		}
	}
}

// Rules

// R3, R8: looks change nothing, and what they answer may be changed; the same calls answer the same.
func TestSameAnswers(t *testing.T) {
	for _, z := range some() {
		b := begun(t, z, 0, nil)
		other := b.copy()
		was := shotOf(b.a)
		for range 3 {
			b.finds(t, z.name(), of(12), 1)
			b.gets(t, z.name(), 0, of(11))
			b.gets(t, z.name(), 1, of(12))
			b.sees(t, z.name(), 12)
			b.getsNone(t, z.name(), 2, api.ErrArg)
			s, _, _ := super.Find(b.a, b.c)
			s.Epoch, s.Scroll = 99, api.Scroll{}
			one, _ := super.Get(b.a, b.c, 0)
			one.Epoch, one.Scroll.Place = 0, -1
			ref := super.Ref(1, 12)
			ref.Gen = 0
		}
		unchanged(t, z.name(), b.a, was)
		one := of(13)
		b.puts(t, z.name(), 0, one)
		one.Epoch, one.Scroll = 0, api.Scroll{}
		b.finds(t, z.name(), of(13), 0)
		other.puts(t, z.name(), 0, of(13))
		unchanged(t, z.name(), b.a, shotOf(other.a))
	}
}

// R4: heads on two arrays know nothing of one another.
func TestTwoArrays(t *testing.T) {
	for _, z := range middle() {
		b, other := made(t, z, 2), made(t, z, 2)
		was := shotOf(other.a)
		b.puts(t, z.name(), 0, of(5))
		unchanged(t, z.name(), other.a, was)
		other.findsNone(t, z.name(), api.ErrBlank)
		other.sees(t, z.name(), 0)
		away := b.copy()
		away.puts(t, z.name(), 1, of(6))
		b.finds(t, z.name(), of(5), 0)
		away.finds(t, z.name(), of(6), 1)
	}
}

// R1: no call panics, whatever it is handed.
func TestNothingPanics(t *testing.T) {
	f := field.New()
	dead := array.New(3, 9)
	for d := range 3 {
		dead.Fail(d)
	}
	arrays := []*array.Array{nil, {}, array.New(1, 1), array.New(2, 1), array.New(2, 600), array.New(2, 2), array.New(3, 9), dead, array.New(255, 3)}
	coders := []*code.Coder{nil, {}, code.New(f, 1, 1), code.New(f, 2, 1), code.New(f, 1, 2), code.New(f, 254, 1), code.New(f, 1, 254), code.New(nil, 1, 1), code.New(f, 0, 0)}
	for _, a := range arrays {
		for at := range a.Sectors() {
			for d := range a.N() {
				a.Write(d, at, sector(mark{kind: 1 + (at+d)%4, index: 255 - d%256, place: 65535 * (d % 2), gen: math.MaxUint64 - uint64(at), size: 65535}, nil))
			}
		}
		super.Seen(a)
		for _, c := range coders {
			for _, slot := range places() {
				for _, epoch := range times() {
					super.Ref(slot, epoch)
					for _, n := range []int{math.MinInt, -1, 0, math.MaxInt} {
						super.Put(a, c, slot, api.Super{Epoch: epoch, Scroll: api.Scroll{Place: n, Gen: epoch, Count: n, Size: n}})
					}
				}
				super.Get(a, c, slot)
				super.Find(a, c)
			}
		}
	}
}
