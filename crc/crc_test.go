package crc_test

import (
	"bytes"
	"hash/crc32"
	"math"
	"strings"
	"testing"

	"ciborium/crc"
)

const polynomial = 0x82f63b78

// noughts is what n noughts make of a register, bit by bit: slow, and plain.
func noughts(register uint32, n int) uint32 {
	for range 8 * n {
		low := register & 1
		register >>= 1
		if low == 1 {
			register ^= polynomial
		}
	}
	return register
}

// slow is the sum of a text behind a sum, bit by bit.
func slow(sum uint32, b []byte) uint32 {
	register := ^sum
	for _, x := range b {
		register = noughts(register^uint32(x), 1)
	}
	return ^register
}

// sums are sums of texts, and some that are taken out of the air.
func sums() []uint32 {
	l := []uint32{0, 1, 2, 0x80000000, 0xffffffff, 0xfffffffe, 0x7fffffff, polynomial, 0xe3069283, 0xdeadbeef, 0x12345678}
	for bit := range 32 {
		l = append(l, 1<<bit, ^uint32(1<<bit))
	}
	return l
}

// texts are texts of some lengths, the same ones each time.
func texts() [][]byte {
	l := [][]byte{nil, {}, {0}, {255}, {128}, []byte("123456789"), bytes.Repeat([]byte{0}, 4), bytes.Repeat([]byte{255}, 4)}
	x := uint32(7)
	for _, size := range []int{1, 2, 3, 4, 5, 7, 8, 9, 31, 44, 60, 64, 255, 256, 1000} {
		b := make([]byte, size)
		for i := range b {
			x = x*1664525 + 1013904223
			b[i] = byte(x >> 24)
		}
		l = append(l, b)
	}
	return l
}

// P2.1

func TestSum(t *testing.T) {
	for _, c := range []struct {
		b    string
		want uint32
	}{
		{"123456789", 0xe3069283},
		{"", 0},
		{"a", 0xc1d04330},
		{"\x00", 0x527d5351},
		{"\xff", 0xff000000},
		{strings.Repeat("\x00", 32), 0x8a9136aa},
		{strings.Repeat("\xff", 32), 0x62a8ab43},
		{strings.Repeat("\xff", 4), 0xffffffff},
	} {
		if got := crc.Sum([]byte(c.b)); got != c.want {
			t.Errorf("Sum(%q) = %08x, want %08x", c.b, got, c.want)
		}
	}
	if got := crc.Sum(nil); got != 0 {
		t.Errorf("Sum(nil) = %08x", got)
	}
}

func TestSumOfEachByte(t *testing.T) {
	for x := range 256 {
		b := []byte{byte(x)}
		if got, want := crc.Sum(b), slow(0, b); got != want {
			t.Errorf("Sum(%x) = %08x, want %08x", b, got, want)
		}
	}
}

func TestSumIsCastagnolis(t *testing.T) {
	known := crc32.MakeTable(crc32.Castagnoli)
	for _, b := range texts() {
		if got, want := crc.Sum(b), crc32.Checksum(b, known); got != want {
			t.Errorf("Sum(%x) = %08x, want %08x", b, got, want)
		}
	}
}

func TestMore(t *testing.T) {
	for _, sum := range sums() {
		for _, b := range texts() {
			if got, want := crc.More(sum, b), slow(sum, b); got != want {
				t.Errorf("More(%08x, %x) = %08x, want %08x", sum, b, got, want)
			}
		}
	}
}

func TestMoreGoesOn(t *testing.T) {
	for _, b := range texts() {
		if crc.More(0, b) != crc.Sum(b) {
			t.Errorf("More(0, %x) isn't its sum", b)
		}
		for cut := range len(b) + 1 {
			if got := crc.More(crc.Sum(b[:cut]), b[cut:]); got != crc.Sum(b) {
				t.Errorf("More of %x cut at %d = %08x, want %08x", b, cut, got, crc.Sum(b))
			}
		}
	}
}

func TestLongText(t *testing.T) {
	b := bytes.Repeat([]byte("ciborium"), 1<<17)
	if got, want := crc.Sum(b), crc32.Checksum(b, crc32.MakeTable(crc32.Castagnoli)); got != want {
		t.Errorf("Sum of %d bytes = %08x, want %08x", len(b), got, want)
	}
}

// P2.2

func TestZeros(t *testing.T) {
	for _, sum := range sums() {
		for _, n := range []int{0, 1, 2, 3, 4, 5, 7, 8, 9, 15, 16, 17, 44, 64, 100, 255, 256, 1000} {
			if got, want := crc.Zeros(sum, n), slow(sum, make([]byte, n)); got != want {
				t.Errorf("Zeros(%08x, %d) = %08x, want %08x", sum, n, got, want)
			}
		}
		for _, n := range []int{0, -1, -2, -44, math.MinInt, math.MinInt + 1} {
			if got := crc.Zeros(sum, n); got != sum {
				t.Errorf("Zeros(%08x, %d) = %08x", sum, n, got)
			}
		}
	}
}

func TestZerosBehindTexts(t *testing.T) {
	for _, b := range texts() {
		for _, n := range []int{0, 1, 2, 5, 44} {
			all := append(bytes.Clone(b), make([]byte, n)...)
			if got := crc.Zeros(crc.Sum(b), n); got != crc.Sum(all) {
				t.Errorf("Zeros of %x, %d = %08x, want %08x", b, n, got, crc.Sum(all))
			}
		}
	}
}

func TestVeryManyZeros(t *testing.T) {
	// The polynomial has a factor x+1 and one of degree 31: registers come round after 2^31-1 bits, and bytes do too, as 8 and that have nothing in common.
	const round = 1<<31 - 1
	for _, sum := range sums() {
		for _, n := range []int{0, 1, 5, 1000} {
			want := slow(sum, make([]byte, n))
			for _, turns := range []int{1, 2, 1 << 9, 1<<9 + 1, 1 << 20, 1 << 31} {
				if got := crc.Zeros(sum, turns*round+n); got != want {
					t.Errorf("Zeros(%08x, %d turns and %d) = %08x, want %08x", sum, turns, n, got, want)
				}
			}
		}
		if got, want := crc.Zeros(sum, 1<<40), slow(sum, make([]byte, 1<<9)); got != want {
			t.Errorf("Zeros(%08x, 2^40) = %08x, want %08x", sum, got, want)
		}
		if got, want := crc.Zeros(sum, math.MaxInt), slow(sum, make([]byte, math.MaxInt%round)); got != want {
			t.Errorf("Zeros(%08x, 2^63-1) = %08x, want %08x", sum, got, want)
		}
	}
}

func TestJoin(t *testing.T) {
	if got := crc.Join(crc.Sum([]byte("12345")), crc.Sum([]byte("6789")), 4); got != 0xe3069283 {
		t.Errorf("Join of 12345 and 6789 = %08x", got)
	}
	for _, a := range texts() {
		for _, b := range texts() {
			want := crc.Sum(append(bytes.Clone(a), b...))
			if got := crc.Join(crc.Sum(a), crc.Sum(b), len(b)); got != want {
				t.Errorf("Join of %x and %x = %08x, want %08x", a, b, got, want)
			}
		}
	}
}

// joined is what the polynomial makes of two sums: the second text's own bits are those of its sum without what its beginning made.
func joined(a, b uint32, n int) uint32 {
	own := ^b ^ noughts(0xffffffff, n)
	return ^(noughts(^a, n) ^ own)
}

func TestJoinOfAnySums(t *testing.T) {
	for _, a := range sums() {
		for _, b := range sums()[:20] {
			for _, n := range []int{0, 1, 3, 4, 5, 44} {
				if got, want := crc.Join(a, b, n), joined(a, b, n); got != want {
					t.Errorf("Join(%08x, %08x, %d) = %08x, want %08x", a, b, n, got, want)
				}
			}
			for _, n := range []int{-1, -7, math.MinInt} {
				if got, want := crc.Join(a, b, n), joined(a, b, 0); got != want {
					t.Errorf("Join(%08x, %08x, %d) = %08x, want %08x", a, b, n, got, want)
				}
			}
		}
	}
}

func TestJoinOfVeryLongText(t *testing.T) {
	for _, a := range sums() {
		for _, n := range []int{1 << 40, 1<<40 + 3, math.MaxInt} {
			b := crc.Zeros(0, n)
			if got, want := crc.Join(a, b, n), crc.Zeros(a, n); got != want {
				t.Errorf("Join(%08x, noughts, %d) = %08x, want %08x", a, n, got, want)
			}
		}
		if got, want := crc.Join(a, 0xe3069283, 1<<40), joined(a, 0xe3069283, 1<<9); got != want {
			t.Errorf("Join(%08x, e3069283, 2^40) = %08x, want %08x", a, got, want)
		}
	}
}

// taken answers b with a mask taken to it, so many bytes ahead of its end.
func taken(b, mask []byte, behind int) []byte {
	b = bytes.Clone(b)
	for i, x := range mask {
		b[len(b)-behind-len(mask)+i] ^= x
	}
	return b
}

func TestTurned(t *testing.T) {
	text := texts()[len(texts())-1]
	for _, size := range []int{1, 2, 5, 9, 64, 100} {
		b := text[:size]
		for _, mask := range texts() {
			for _, behind := range []int{0, 1, 2, 3, 8, 50} {
				if len(mask)+behind > len(b) {
					continue
				}
				want := crc.Sum(taken(b, mask, behind))
				if got := crc.Turned(crc.Sum(b), mask, behind); got != want {
					t.Errorf("Turned of %x by %x, %d behind = %08x, want %08x", b, mask, behind, got, want)
				}
			}
		}
		// A mask as long as the text: what is told is the sum of another text of this length.
		other := bytes.Repeat([]byte{0xa5}, size)
		if got, want := crc.Turned(crc.Sum(b), taken(b, other, 0), 0), crc.Sum(other); got != want {
			t.Errorf("Turned of all of %x = %08x, want %08x", b, got, want)
		}
	}
}

func TestTurnedByNothing(t *testing.T) {
	for _, sum := range sums() {
		for _, behind := range []int{0, 1, 5, -1, 1 << 40, math.MaxInt, math.MinInt} {
			for _, mask := range [][]byte{nil, {}, {0}, make([]byte, 100)} {
				if got := crc.Turned(sum, mask, behind); got != sum {
					t.Errorf("Turned(%08x, %x, %d) = %08x", sum, mask, behind, got)
				}
			}
		}
	}
}

func TestTurnedOfAnySum(t *testing.T) {
	for _, sum := range sums() {
		for _, mask := range texts() {
			change := ^slow(0xffffffff, mask)
			for _, behind := range []int{0, 1, 4, 44} {
				if got, want := crc.Turned(sum, mask, behind), sum^noughts(change, behind); got != want {
					t.Errorf("Turned(%08x, %x, %d) = %08x, want %08x", sum, mask, behind, got, want)
				}
			}
			for _, behind := range []int{-1, -44, math.MinInt} {
				if got, want := crc.Turned(sum, mask, behind), sum^change; got != want {
					t.Errorf("Turned(%08x, %x, %d) = %08x, want %08x", sum, mask, behind, got, want)
				}
			}
			if got, want := crc.Turned(sum, mask, 1<<40), sum^noughts(change, 1<<9); got != want {
				t.Errorf("Turned(%08x, %x, 2^40) = %08x, want %08x", sum, mask, got, want)
			}
			if got, want := crc.Turned(sum, mask, math.MaxInt), sum^noughts(change, math.MaxInt%(1<<31-1)); got != want {
				t.Errorf("Turned(%08x, %x, 2^63-1) = %08x, want %08x", sum, mask, got, want)
			}
		}
	}
}

func TestTurnedTwice(t *testing.T) {
	for _, sum := range sums() {
		for _, mask := range texts() {
			if got := crc.Turned(crc.Turned(sum, mask, 7), mask, 7); got != sum {
				t.Errorf("Turned(%08x) by %x twice = %08x", sum, mask, got)
			}
		}
	}
}

// P2.3

func TestTurnedBitsAreSeen(t *testing.T) {
	for _, size := range []int{1, 3, 4, 5, 9, 44} {
		b := texts()[len(texts())-1][:size]
		sum := crc.Sum(b)
		for from := range 8 * size {
			for _, bits := range []uint32{1, 3, 5, 0x80000001, 0xffffffff, 0xdeadbeef, polynomial, 0xedb88320, 0x04c11db7, 0x1edc6f41} {
				mask := make([]byte, size)
				some := false
				for i := range 32 {
					if bits>>i&1 == 1 && from+i < 8*size {
						mask[(from+i)/8] |= 1 << ((from + i) % 8)
						some = true
					}
				}
				if some && crc.Sum(taken(b, mask, 0)) == sum {
					t.Errorf("%x turned by %x from bit %d on has the same sum", b, mask, from)
				}
				if some && crc.Turned(sum, mask, 0) == sum {
					t.Errorf("Turned of %x by %x from bit %d on answers the same sum", b, mask, from)
				}
			}
		}
	}
}

func TestEachTurnOfTwoBytesIsSeen(t *testing.T) {
	b := []byte("ciborium")
	sum := crc.Sum(b)
	for at := range len(b) - 1 {
		for x := 1; x < 1<<16; x++ {
			if crc.Turned(sum, []byte{byte(x), byte(x >> 8)}, len(b)-2-at) == sum {
				t.Fatalf("bytes %d and the next, turned by %x, aren't seen", at, x)
			}
		}
	}
}

func TestZerosByZeros(t *testing.T) {
	many := []int{0, 1, 2, 3, 7, 44, 1000, 1 << 31, 1<<31 - 1, 1 << 40, 1<<40 + 5, 1 << 61}
	for _, sum := range sums()[:16] {
		for _, a := range many {
			for _, b := range many {
				if got, want := crc.Zeros(crc.Zeros(sum, a), b), crc.Zeros(sum, a+b); got != want {
					t.Errorf("Zeros(%08x) of %d and %d = %08x, at once %08x", sum, a, b, got, want)
				}
			}
			if got, want := crc.Zeros(crc.Zeros(sum, -5), a), crc.Zeros(sum, a); got != want {
				t.Errorf("Zeros(%08x) of -5 and %d = %08x, want %08x", sum, a, got, want)
			}
		}
	}
}

// R3

func TestNothingIsChanged(t *testing.T) {
	for _, b := range texts() {
		room := append(bytes.Clone(b), "behind"...)
		kept := bytes.Clone(room)
		text := room[:len(b)]
		first := crc.Turned(crc.More(crc.Sum(text), text), text, 3)
		if !bytes.Equal(room, kept) {
			t.Errorf("%x was changed into %x", kept, room)
		}
		if again := crc.Turned(crc.More(crc.Sum(text), text), text, 3); again != first {
			t.Errorf("%x answers %08x, and then %08x", text, first, again)
		}
	}
}
