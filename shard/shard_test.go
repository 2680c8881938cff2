package shard_test

import (
	"bytes"
	"fmt"
	"hash/crc32"
	"math"
	"testing"

	"ciborium/api"
	"ciborium/crc"
	"ciborium/shard"
)

// Where a shard's parts stand, and the greatest numbers.
const (
	noughtsAt  = 14
	bodyAt     = 16
	sumAt      = 60
	mostCount  = 1<<20 - 1
	mostEpoch  = 1<<40 - 1
	mostNumber = math.MaxUint64
)

// body answers a body, each byte unlike those of another seed at its place.
func body(seed int) [44]byte {
	var b [44]byte
	for i := range b {
		b[i] = byte(seed + 31*i)
	}
	return b
}

// bodies are bodies that are all noughts, all ones, and of which one byte alone isn't nought.
func bodies() [][44]byte {
	l := [][44]byte{{}, body(1)}
	var all [44]byte
	for i := range all {
		all[i] = 255
		var one [44]byte
		one[i] = byte(i + 1)
		l = append(l, one)
	}
	return append(l, all)
}

// heads are shards without bodies, of each kind that there is, with every field at 0, at 1, at a number whose bytes differ, and at its greatest.
func heads() []api.Shard {
	var l []api.Shard
	for kind := 1; kind <= 4; kind++ {
		for _, index := range []uint8{0, 1, 0x5a, 255} {
			for _, place := range []uint16{0, 1, 0x1234, 65535} {
				for _, gen := range []uint64{0, 1, 0x123456789abcdef, mostNumber} {
					for _, size := range []uint16{0, 1, 0x4321, 65535} {
						l = append(l, api.Shard{Kind: uint8(kind), Index: index, Place: place, Gen: gen, Size: size})
					}
				}
			}
		}
	}
	return l
}

// some are a few shards, unlike in all their fields.
func some() []api.Shard {
	return []api.Shard{
		{Kind: 1, Index: 0, Place: 0, Gen: 0, Size: 0},
		{Kind: 2, Index: 7, Place: 0x1234, Gen: 0x123456789abcdef, Size: 0x4321, Body: body(1)},
		{Kind: 3, Index: 254, Place: 399, Gen: 2097157, Size: 44, Body: body(100)},
		{Kind: 4, Index: 255, Place: 65535, Gen: mostNumber, Size: 65535, Body: bodies()[45]},
	}
}

// known is the sum of the chapter, made by somebody else.
func known(b []byte) uint32 { return crc32.Checksum(b, crc32.MakeTable(crc32.Castagnoli)) }

// summed answers 64 bytes with their last four made the sum of the others.
func summed(b []byte) []byte {
	b = bytes.Clone(b)
	sum := known(b[:sumAt])
	b[60], b[61], b[62], b[63] = byte(sum&255), byte(sum/256&255), byte(sum/65536&255), byte(sum/16777216)
	return b
}

// plain is what a shard must be as bytes, byte by byte.
func plain(s api.Shard) []byte {
	b := make([]byte, 64)
	b[0], b[1] = s.Kind, s.Index
	b[2], b[3] = byte(s.Place%256), byte(s.Place/256)
	gen := s.Gen
	for i := 4; i < 12; i++ {
		b[i] = byte(gen % 256)
		gen /= 256
	}
	b[12], b[13] = byte(s.Size%256), byte(s.Size/256)
	for i, x := range s.Body {
		b[16+i] = x
	}
	return summed(b)
}

// put puts what must be put.
func put(t *testing.T, s api.Shard) []byte {
	t.Helper()
	b, e := shard.Put(s)
	if e != api.OK {
		t.Fatalf("Put(%v) = %d", s, e)
	}
	return b
}

// got tells what goes wrong where bytes are to be a shard.
func got(t *testing.T, b []byte, want api.Shard) {
	t.Helper()
	if s, e := shard.Get(b); s != want || e != api.OK {
		t.Errorf("Get(%x) = %v, %d, want %v", b, s, e, want)
	}
}

// refused tells what goes wrong where bytes are to be no shard.
func refused(t *testing.T, name string, b []byte, want api.Errno) {
	t.Helper()
	was := bytes.Clone(b)
	if s, e := shard.Get(b); s != (api.Shard{}) || e != want {
		t.Errorf("%s: Get(%x) = %v, %d, want nothing, %d", name, b, s, e, want)
	}
	if !bytes.Equal(b, was) {
		t.Errorf("%s: Get made %x of %x", name, b, was)
	}
}

func TestExamples(t *testing.T) {
	if gen, e := shard.Gen(2, 5); gen != 2097157 || e != api.OK {
		t.Errorf("Gen(2, 5) = %d, %d", gen, e)
	}
	refused(t, "noughts", make([]byte, 64), api.ErrSum)
}

// P11.1

func TestPutByteByByte(t *testing.T) {
	s := api.Shard{Kind: 3, Index: 0xa1, Place: 0xb2b1, Gen: 0xc8c7c6c5c4c3c2c1, Size: 0xd2d1}
	for i := range s.Body {
		s.Body[i] = byte(i + 1)
	}
	b := put(t, s)
	head := []byte{3, 0xa1, 0xb1, 0xb2, 0xc1, 0xc2, 0xc3, 0xc4, 0xc5, 0xc6, 0xc7, 0xc8, 0xd1, 0xd2, 0, 0}
	if len(b) != 64 || !bytes.Equal(b[:bodyAt], head) {
		t.Fatalf("Put(%v) = %x, want %x ahead", s, b, head)
	}
	for i := range 44 {
		if b[bodyAt+i] != byte(i+1) {
			t.Errorf("byte %d of the body = %d", i, b[bodyAt+i])
		}
	}
	sum := crc.Sum(b[:sumAt])
	for i := range 4 {
		if b[sumAt+i] != byte(sum>>(8*i)) {
			t.Errorf("byte %d of the sum %08x = %02x", i, sum, b[sumAt+i])
		}
	}
}

func TestPutOfEachHead(t *testing.T) {
	for _, s := range heads() {
		for _, s.Body = range [][44]byte{{}, body(1), bodies()[45]} {
			if b := put(t, s); !bytes.Equal(b, plain(s)) {
				t.Errorf("Put(%v) = %x, want %x", s, b, plain(s))
			}
		}
	}
}

func TestPutOfEachBody(t *testing.T) {
	for _, s := range some() {
		for _, s.Body = range bodies() {
			if b := put(t, s); !bytes.Equal(b, plain(s)) {
				t.Errorf("Put(%v) = %x, want %x", s, b, plain(s))
			}
		}
	}
}

// Which bytes change with a field tells where it stands, whatever its bytes are.
func TestPutOfOneFieldChanged(t *testing.T) {
	for _, c := range []struct {
		name     string
		change   func(s *api.Shard)
		from, to int
	}{
		{"Kind", func(s *api.Shard) { s.Kind = 5 - s.Kind }, 0, 1},
		{"Index", func(s *api.Shard) { s.Index ^= 255 }, 1, 2},
		{"Place", func(s *api.Shard) { s.Place ^= 65535 }, 2, 4},
		{"Gen", func(s *api.Shard) { s.Gen ^= mostNumber }, 4, 12},
		{"Size", func(s *api.Shard) { s.Size ^= 65535 }, 12, 14},
		{"Body", func(s *api.Shard) {
			for i := range s.Body {
				s.Body[i] ^= 255
			}
		}, 16, 60},
	} {
		for _, s := range some() {
			was := put(t, s)
			c.change(&s)
			b := put(t, s)
			for i := range sumAt {
				if changed := b[i] != was[i]; changed != (c.from <= i && i < c.to) {
					t.Errorf("%s of %v: byte %d changed: %t", c.name, s, i, changed)
				}
			}
		}
	}
}

func TestPutHasNoughtsAndSum(t *testing.T) {
	for _, s := range heads() {
		s.Body = body(int(s.Index))
		b := put(t, s)
		if b[noughtsAt] != 0 || b[noughtsAt+1] != 0 {
			t.Errorf("Put(%v): %x instead of noughts", s, b[noughtsAt:bodyAt])
		}
		sum := crc.Sum(b[:sumAt])
		if !bytes.Equal(b[sumAt:], []byte{byte(sum), byte(sum >> 8), byte(sum >> 16), byte(sum >> 24)}) {
			t.Errorf("Put(%v): the last four are %x, the sum is %08x", s, b[sumAt:], sum)
		}
	}
}

func TestPutOfEachKind(t *testing.T) {
	for kind := range 256 {
		for _, s := range append(some(), api.Shard{}) {
			s.Kind = uint8(kind)
			b, e := shard.Put(s)
			if kind < 1 || kind > 4 {
				if len(b) != 0 || e != api.ErrArg {
					t.Errorf("Put of kind %d = %x, %d, want nothing, ErrArg", kind, b, e)
				}
				continue
			}
			if !bytes.Equal(b, plain(s)) || e != api.OK {
				t.Errorf("Put of kind %d = %x, %d, want %x", kind, b, e, plain(s))
			}
		}
	}
}

func TestGetOfEachLength(t *testing.T) {
	b := put(t, some()[1])
	long := append(append(bytes.Clone(b), b...), b...)
	for size := range len(long) + 1 {
		if size == 64 {
			got(t, long[:size], some()[1])
			continue
		}
		name := fmt.Sprintf("%d bytes", size)
		refused(t, name, long[:size], api.ErrArg) // behind which the rest of a shard stands, where nobody looks
		refused(t, name, bytes.Clone(long[:size]), api.ErrArg)
		refused(t, name+" of noughts", make([]byte, size), api.ErrArg)
	}
	refused(t, "nil", nil, api.ErrArg)
	refused(t, "no bytes", []byte{}, api.ErrArg)
	refused(t, "65 bytes", append([]byte{0}, b...), api.ErrArg)
	refused(t, "the last 63 bytes", b[1:], api.ErrArg)
}

func TestGetOfOneBitTurned(t *testing.T) {
	for _, s := range append(some(), heads()[:8]...) {
		b := put(t, s)
		for bit := range 8 * 64 {
			turned := bytes.Clone(b)
			turned[bit/8] ^= 1 << (bit % 8)
			refused(t, fmt.Sprintf("bit %d", bit), turned, api.ErrSum)
		}
		got(t, b, s)
	}
}

// Two bytes of the sum that have changed places are no sum.
func TestGetOfSumTheOtherWayRound(t *testing.T) {
	b := put(t, some()[1])
	b[60], b[61], b[62], b[63] = b[63], b[62], b[61], b[60]
	refused(t, "the highest first", b, api.ErrSum)
	sum := crc.Sum(b)
	all := append(bytes.Clone(b[:sumAt]), byte(sum), byte(sum>>8), byte(sum>>16), byte(sum>>24))
	refused(t, "the sum of all", all, api.ErrSum)
}

func TestGetOfEachKind(t *testing.T) {
	for kind := range 256 {
		for _, s := range some() {
			b := put(t, s)
			b[0] = byte(kind)
			if kind != int(s.Kind) {
				refused(t, fmt.Sprintf("kind %d, the sum of another one", kind), b, api.ErrSum)
			}
			right := summed(b)
			if kind < 1 || kind > 4 {
				refused(t, fmt.Sprintf("kind %d", kind), right, api.ErrForm)
				continue
			}
			s.Kind = uint8(kind)
			got(t, right, s)
		}
	}
}

func TestGetOfEachNought(t *testing.T) {
	for _, s := range some() {
		for at := noughtsAt; at < bodyAt; at++ {
			for x := 1; x < 256; x++ {
				b := put(t, s)
				b[at] = byte(x)
				name := fmt.Sprintf("%d at %d", x, at)
				refused(t, name+", the sum of noughts", b, api.ErrSum)
				refused(t, name, summed(b), api.ErrForm)
			}
		}
	}
}

func TestFirstError(t *testing.T) {
	for _, kind := range []byte{0, 1, 4, 5, 255} {
		for _, noughts := range [][]byte{{0, 0}, {1, 0}, {0, 1}, {255, 255}} {
			for _, sum := range []bool{true, false} {
				for _, size := range []int{63, 64, 65} {
					b := plain(some()[1])
					b[0] = kind
					copy(b[noughtsAt:], noughts)
					b = summed(b)
					if !sum {
						b[63] ^= 1
					}
					b = append(b, 0)[:size]
					name := fmt.Sprintf("kind %d, noughts %v, right sum %t, %d bytes", kind, noughts, sum, size)
					form := kind >= 1 && kind <= 4 && noughts[0] == 0 && noughts[1] == 0
					switch {
					case size != 64:
						refused(t, name, b, api.ErrArg)
					case !sum:
						refused(t, name, b, api.ErrSum)
					case !form:
						refused(t, name, b, api.ErrForm)
					default:
						s := some()[1]
						s.Kind = kind
						got(t, b, s)
					}
				}
			}
		}
	}
}

func TestPutAnswersNewMemory(t *testing.T) {
	for _, s := range some() {
		b := put(t, s)
		other := put(t, s)
		want := bytes.Clone(b)
		longer := append(b, 1, 2, 3)
		for i := range longer {
			longer[i] ^= 255
		}
		for i := range b {
			b[i] = 77
		}
		if !bytes.Equal(other, want) || !bytes.Equal(put(t, s), want) {
			t.Errorf("Put(%v) knows what became of another answer", s)
		}
	}
}

func TestGetKeepsNothing(t *testing.T) {
	for _, want := range some() {
		b := put(t, want)
		s, e := shard.Get(b)
		for i := range b {
			b[i] ^= 255
		}
		if s != want || e != api.OK {
			t.Errorf("Get = %v, %d behind a change of its bytes, want %v", s, e, want)
		}
		s.Body[0] ^= 255
		s.Gen++
		for i := range b {
			b[i] ^= 255
		}
		got(t, b, want)
	}
}

func TestGetChangesNothing(t *testing.T) {
	for _, s := range some() {
		all := append(put(t, s), 1, 2, 3, 4)
		was := bytes.Clone(all)
		for range 2 {
			got(t, all[:64], s)
		}
		if !bytes.Equal(all, was) {
			t.Errorf("Get made %x of %x", all, was)
		}
	}
}

// P11.2

func TestIs(t *testing.T) {
	for _, s := range some() {
		ref := api.Ref{Kind: s.Kind, Place: int(s.Place), Gen: s.Gen}
		if !shard.Is(s, ref, int(s.Index)) {
			t.Errorf("%v isn't of %v", s, ref)
		}
		for bit := range 64 {
			other := ref
			other.Gen ^= 1 << bit
			if shard.Is(s, other, int(s.Index)) {
				t.Errorf("%v is of generation %x", s, other.Gen)
			}
		}
	}
}

func TestIsOfEachKind(t *testing.T) {
	for kind := range 256 {
		for other := range 256 {
			s := api.Shard{Kind: uint8(kind), Index: 3, Place: 5, Gen: 7}
			if is := shard.Is(s, api.Ref{Kind: uint8(other), Place: 5, Gen: 7}, 3); is != (kind == other) {
				t.Errorf("kind %d is %d: %t", kind, other, is)
			}
		}
	}
}

func TestIsOfEachIndex(t *testing.T) {
	for _, mine := range []uint8{0, 1, 2, 127, 128, 254, 255} {
		s := api.Shard{Kind: 3, Index: mine, Place: 5, Gen: 7}
		ref := api.Ref{Kind: 3, Place: 5, Gen: 7}
		asked := []int{math.MinInt, math.MinInt + int(mine), math.MinInt32, math.MaxInt32, math.MaxInt, int(mine) + 65536, int(mine) - 65536, int(mine) + 1<<32, int(mine) - 1<<32, ^int(mine), -int(mine)}
		for index := -600; index <= 600; index++ {
			asked = append(asked, index)
		}
		for _, index := range asked {
			if is := shard.Is(s, ref, index); is != (index == int(mine)) {
				t.Errorf("index %d is %d: %t", mine, index, is)
			}
		}
	}
}

func TestIsOfEachPlace(t *testing.T) {
	for _, mine := range []uint16{0, 1, 255, 256, 399, 32767, 32768, 65534, 65535} {
		s := api.Shard{Kind: 3, Index: 3, Place: mine, Gen: 7}
		asked := []int{math.MinInt, math.MinInt + int(mine), math.MaxInt, int(mine) + 1<<32, int(mine) - 1<<32, ^int(mine), -int(mine)}
		for _, by := range []int{-131072, -65536, -32768, -256, -1, 0, 1, 256, 32768, 65536, 131072} {
			asked = append(asked, int(mine)+by, by)
		}
		for _, place := range asked {
			if is := shard.Is(s, api.Ref{Kind: 3, Place: place, Gen: 7}, 3); is != (place == int(mine)) {
				t.Errorf("place %d is %d: %t", mine, place, is)
			}
		}
	}
}

func TestIsOfSeveralThatDiffer(t *testing.T) {
	s := api.Shard{Kind: 2, Index: 2, Place: 2, Gen: 2}
	for i := range 16 {
		part := func(bit int) int { return 2 - i>>bit&1 }
		ref := api.Ref{Kind: uint8(part(0)), Place: part(1), Gen: uint64(part(2))}
		if is := shard.Is(s, ref, part(3)); is != (i == 0) {
			t.Errorf("%v is %d of %v: %t", s, part(3), ref, is)
		}
	}
}

// A number that stands in another field is no match: those of a shard and a ref that have changed places.
func TestIsByTheFieldsNames(t *testing.T) {
	s := api.Shard{Kind: 1, Index: 2, Place: 3, Gen: 4}
	if !shard.Is(s, api.Ref{Kind: 1, Place: 3, Gen: 4}, 2) {
		t.Error("isn't itself")
	}
	for _, ref := range []api.Ref{{Kind: 3, Place: 1, Gen: 4}, {Kind: 1, Place: 4, Gen: 3}, {Kind: 4, Place: 3, Gen: 1}} {
		if shard.Is(s, ref, 2) {
			t.Errorf("is of %v", ref)
		}
	}
}

func TestIsWhateverSizeAndBody(t *testing.T) {
	for _, s := range some() {
		ref := api.Ref{Kind: s.Kind, Place: int(s.Place), Gen: s.Gen}
		for _, s.Size = range []uint16{0, 1, 44, 65535} {
			for _, s.Body = range bodies() {
				if !shard.Is(s, ref, int(s.Index)) {
					t.Errorf("%v isn't of %v", s, ref)
				}
				if shard.Is(s, ref, int(s.Index)+1) {
					t.Errorf("%v is the next one", s)
				}
			}
		}
	}
}

func TestIsOfNothing(t *testing.T) {
	if !shard.Is(api.Shard{}, api.Ref{}, 0) {
		t.Error("a shard of noughts isn't that of a ref of noughts")
	}
	if shard.Is(api.Shard{}, api.Ref{Kind: 1}, 0) || shard.Is(api.Shard{Kind: 1}, api.Ref{}, 0) {
		t.Error("a shard of kind 0 is one of kind 1")
	}
}

func epochs() []uint64 {
	return []uint64{0, 1, 2, 1 << 20, 1<<20 - 1, 1 << 39, mostEpoch - 1, mostEpoch}
}

func greatEpochs() []uint64 {
	return []uint64{1 << 40, 1<<40 + 1, 1<<44 - 1, 1 << 44, 1<<44 + 1, 1 << 60, 1<<63 - 1, 1 << 63, mostNumber - 1, mostNumber}
}

func TestGen(t *testing.T) {
	for _, epoch := range epochs() {
		for _, count := range []int{0, 1, 5, 65535, 1 << 19, mostCount - 1, mostCount} {
			want := epoch*1048576 + uint64(count)
			if gen, e := shard.Gen(epoch, count); gen != want || e != api.OK {
				t.Errorf("Gen(%d, %d) = %d, %d, want %d", epoch, count, gen, e, want)
			}
		}
	}
	if gen, e := shard.Gen(mostEpoch, mostCount); gen != 1<<60-1 || e != api.OK {
		t.Errorf("the greatest = %d, %d", gen, e)
	}
}

func TestGenOfStrangeNumbers(t *testing.T) {
	strange := []int{math.MinInt, math.MinInt32, -1 << 20, -1<<20 + 1, -2, -1, 1 << 20, 1<<20 + 1, 1 << 21, 1 << 32, 1<<32 + 1, math.MaxInt}
	for _, epoch := range append(epochs(), greatEpochs()...) {
		for _, count := range strange {
			if gen, e := shard.Gen(epoch, count); gen != 0 || e != api.ErrArg {
				t.Errorf("Gen(%d, %d) = %d, %d, want 0, ErrArg", epoch, count, gen, e)
			}
		}
	}
	for _, epoch := range greatEpochs() {
		for _, count := range []int{0, 1, mostCount} {
			if gen, e := shard.Gen(epoch, count); gen != 0 || e != api.ErrArg {
				t.Errorf("Gen(%d, %d) = %d, %d, want 0, ErrArg", epoch, count, gen, e)
			}
		}
	}
}

func TestEpochOfWhatGenMade(t *testing.T) {
	for _, epoch := range epochs() {
		for _, count := range []int{0, 1, 2, 1 << 19, mostCount - 1, mostCount} {
			gen, _ := shard.Gen(epoch, count)
			if back := shard.Epoch(gen); back != epoch {
				t.Errorf("Epoch(Gen(%d, %d)) = %d", epoch, count, back)
			}
		}
	}
}

func TestEpochOfAnyGeneration(t *testing.T) {
	for _, c := range []struct{ gen, want uint64 }{
		{0, 0}, {1, 0}, {1<<20 - 1, 0}, {1 << 20, 1}, {1<<20 + 1, 1}, {1<<21 - 1, 1}, {1 << 21, 2}, {2097157, 2},
		{1<<60 - 1, 1<<40 - 1}, {1 << 60, 1 << 40}, {1 << 63, 1 << 43}, {mostNumber, 1<<44 - 1}, {mostNumber - 1<<20, 1<<44 - 2},
	} {
		if got := shard.Epoch(c.gen); got != c.want {
			t.Errorf("Epoch(%d) = %d, want %d", c.gen, got, c.want)
		}
	}
	for bit := range 64 {
		want := uint64(0)
		if bit >= 20 {
			want = 1 << (bit - 20)
		}
		if got := shard.Epoch(1 << bit); got != want {
			t.Errorf("Epoch of bit %d = %d, want %d", bit, got, want)
		}
	}
}

// P11.3

func TestWhatIsPutIsGot(t *testing.T) {
	for _, s := range heads() {
		for _, s.Body = range bodies() {
			got(t, put(t, s), s)
		}
	}
}

func TestWhatIsGotIsPut(t *testing.T) {
	x := uint32(7)
	for kind := range 4 {
		for range 500 {
			b := make([]byte, 64)
			for i := range b {
				x = x*1664525 + 1013904223
				b[i] = byte(x >> 24)
			}
			b[0], b[14], b[15] = byte(kind+1), 0, 0
			b = summed(b)
			s, e := shard.Get(b)
			if e != api.OK {
				t.Fatalf("Get(%x) = %d", b, e)
			}
			if again := put(t, s); !bytes.Equal(again, b) {
				t.Errorf("what was got of %x is put as %x", b, again)
			}
		}
	}
}

// turn answers a shard's bytes with those bits turned that a mask says, the lowest of them at a bit, as the bytes' bits lie one behind the other, the lowest first. Bits of the mask behind the end are left out.
func turn(b []byte, at int, mask uint32) []byte {
	b = bytes.Clone(b)
	for i := range 32 {
		if bit := at + i; mask>>i&1 == 1 && bit < 8*len(b) {
			b[bit/8] ^= 1 << (bit % 8)
		}
	}
	return b
}

// notGot tells what goes wrong where a shard's bytes with bits turned are got.
func notGot(t *testing.T, b []byte, at int, mask uint32) {
	t.Helper()
	if s, e := shard.Get(turn(b, at, mask)); e != api.ErrSum || s != (api.Shard{}) {
		t.Errorf("bits %x turned from bit %d on: Get = %v, %d, want nothing, ErrSum", mask, at, s, e)
	}
}

func TestBitsTurnedWithin32(t *testing.T) {
	x := uint32(7)
	for _, s := range some() {
		b := put(t, s)
		for at := range 8 * 64 {
			for width := range 31 {
				notGot(t, b, at, 1|1<<(width+1))             // two bits
				notGot(t, b, at, math.MaxUint32>>(31-width)) // all bits up to one
			}
			for range 60 {
				x = x*1664525 + 1013904223
				notGot(t, b, at, x^x>>15|1)
			}
			notGot(t, b, at, math.MaxUint32)
		}
	}
}

func TestEachPatternOfAByteTurned(t *testing.T) {
	b := put(t, some()[1])
	for at := range 8 * 64 {
		for mask := uint32(1); mask < 256; mask += 2 {
			notGot(t, b, at, mask)
		}
	}
}

func TestGenerationsRise(t *testing.T) {
	last, first := uint64(0), true
	for _, epoch := range []uint64{0, 1, 2, 3, 1 << 20, 1<<20 + 1, 1 << 32, mostEpoch - 1, mostEpoch} {
		for _, count := range []int{0, 1, 2, 3, 255, 256, 65535, 65536, 1 << 19, mostCount - 1, mostCount} {
			gen, e := shard.Gen(epoch, count)
			if e != api.OK || !first && gen <= last {
				t.Errorf("Gen(%d, %d) = %d, %d behind %d", epoch, count, gen, e, last)
			}
			last, first = gen, false
		}
	}
	for _, epoch := range []uint64{0, 1, mostEpoch - 1} {
		above, _ := shard.Gen(epoch, mostCount)
		if next, _ := shard.Gen(epoch+1, 0); next != above+1 {
			t.Errorf("between epochs %d and %d: %d, %d", epoch, epoch+1, above, next)
		}
	}
}

// R1, R4

func TestNothingPanics(t *testing.T) {
	numbers := []uint64{0, 1, 2, 5, 255, 256, 1 << 20, 1 << 40, 1 << 63, mostNumber}
	ints := []int{math.MinInt, -65536, -256, -1, 0, 1, 44, 64, 255, 256, 65535, 65536, 1 << 20, math.MaxInt}
	for _, n := range numbers {
		for _, i := range ints {
			s := api.Shard{Kind: uint8(n), Index: uint8(n), Place: uint16(n), Gen: n, Size: uint16(n)}
			first, e := shard.Put(s)
			again, f := shard.Put(s)
			if !bytes.Equal(first, again) || e != f {
				t.Errorf("Put(%v) answers %x, %d, then %x, %d", s, first, e, again, f)
			}
			is := shard.Is(s, api.Ref{Kind: uint8(n), Place: i, Gen: n}, i)
			if want := int(uint16(n)) == i && int(uint8(n)) == i; is != want {
				t.Errorf("Is(%v, .. %d, %d) = %t", s, i, i, is)
			}
			gen, e := shard.Gen(n, i)
			if e == api.OK && shard.Epoch(gen) != n || e != api.OK && gen != 0 {
				t.Errorf("Gen(%d, %d) = %d, %d", n, i, gen, e)
			}
			shard.Epoch(n)
		}
	}
	for size := range 200 {
		for x := range 256 {
			shard.Get(bytes.Repeat([]byte{byte(x)}, size))
		}
	}
}
