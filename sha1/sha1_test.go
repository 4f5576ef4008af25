package sha1

import (
	"bytes"
	library "crypto/sha1"
	"encoding"
	"encoding/binary"
	"encoding/hex"
	"hash"
	"math"
	"math/big"
	"slices"
	"strings"
	"testing"
)

// random makes numbers that look random, the same in each run.
type random uint64

func (r *random) next() uint64 {
	*r ^= *r << 13
	*r ^= *r >> 7
	*r ^= *r << 17
	return uint64(*r)
}

// below is a number from 0 to n - 1.
func (r *random) below(n int) int {
	return int(r.next() % uint64(n))
}

// text is some random bytes.
func (r *random) text(many int) []byte {
	b := make([]byte, many)
	for i := range b {
		b[i] = byte(r.next())
	}
	return b
}

// state is five random words.
func (r *random) state() [5]uint32 {
	var w [5]uint32
	for i := range w {
		w[i] = uint32(r.next())
	}
	return w
}

// divided is a text in parts, some of them empty or nil, and each with capacity behind it that is in use.
func (r *random) divided(text []byte, longest int) [][]byte {
	var parts [][]byte
	for len(text) > 0 {
		many := min(r.below(longest+1), len(text))
		parts = append(parts, text[:many])
		text = text[many:]
		if r.below(4) == 0 {
			parts = append(parts, nil)
		}
	}
	return parts
}

// edges are words at the ends of their range, and with one bit.
func edges() []uint32 {
	list := []uint32{0, 0x55555555, 0xaaaaaaaa, 0x01020304, 0xfffffffe, 0xffffffff}
	for bit := range 32 {
		list = append(list, 1<<bit)
	}
	return list
}

// libraryAt is the library's hash after so many bytes that led to a state, of which it still holds the last ones.
func libraryAt(t *testing.T, state [5]uint32, held []byte, length uint64) hash.Hash {
	t.Helper()
	b := []byte("sha\x01")
	for _, w := range state {
		b = binary.BigEndian.AppendUint32(b, w)
	}
	b = append(b, held...)
	b = append(b, make([]byte, 64-len(held))...)
	b = binary.BigEndian.AppendUint64(b, length)
	h := library.New()
	if err := h.(encoding.BinaryUnmarshaler).UnmarshalBinary(b); err != nil {
		t.Fatal(err)
	}
	return h
}

// libraryStep is Step by the library.
func libraryStep(t *testing.T, state [5]uint32, block [64]byte) [5]uint32 {
	t.Helper()
	h := libraryAt(t, state, nil, 0)
	h.Write(block[:])
	b, err := h.(encoding.BinaryMarshaler).MarshalBinary()
	if err != nil {
		t.Fatal(err)
	}
	var after [5]uint32
	for i := range after {
		after[i] = binary.BigEndian.Uint32(b[4+4*i:])
	}
	return after
}

// P9.1: texts whose digests the standard and others have published.
func TestSumOfKnownTexts(t *testing.T) {
	for _, c := range []struct {
		text, want string
	}{
		{"", "da39a3ee5e6b4b0d3255bfef95601890afd80709"},
		{"a", "86f7e437faa5a7fce15d1ddcb9eaeaea377667b8"},
		{"abc", "a9993e364706816aba3e25717850c26c9cd0d89d"},
		{"abcdbcdecdefdefgefghfghighijhijkijkljklmklmnlmnomnopnopq", "84983e441c3bd26ebaae4aa1f95129e5e54670f1"},
		{"abcdefghbcdefghicdefghijdefghijkefghijklfghijklmghijklmnhijklmnoijklmnopjklmnopqklmnopqrlmnopqrsmnopqrstnopqrstu", "a49b2446a02c645bf419f995b67091253a04a259"},
		{"The quick brown fox jumps over the lazy dog", "2fd4e1c67a2d28fced849ee1bb76e7391b93eb12"},
		{"The quick brown fox jumps over the lazy cog", "de9f2c7fd25e1b3afad3e85a0bd17d9b100db4b3"},
		{strings.Repeat("a", 1000000), "34aa973cd4c4daa4f61eeb2bdbad27316534016f"},
	} {
		if got := Hex(Sum([]byte(c.text))); got != c.want {
			t.Errorf("Sum(%.20q): %s, want %s", c.text, got, c.want)
		}
		if got := Hex(Of([]byte(c.text))); got != c.want {
			t.Errorf("Of(%.20q): %s, want %s", c.text, got, c.want)
		}
	}
	if got := Hex(Of()); got != "da39a3ee5e6b4b0d3255bfef95601890afd80709" {
		t.Errorf("Of(): %s", got)
	}
	if Sum(nil) != Sum([]byte{}) || Sum(nil) != Of() || Sum(nil) != Of(nil) || Sum(nil) != Of(nil, []byte{}, nil) {
		t.Error("no bytes have several digests")
	}
}

// P9.1: every length around those at which a block begins, and at which the padding needs one more.
func TestSum(t *testing.T) {
	r := random(1)
	for length := range 600 {
		for _, text := range [][]byte{r.text(length), make([]byte, length), bytes.Repeat([]byte{0xff}, length), bytes.Repeat([]byte{128}, length)} {
			if got, want := Sum(text), Digest(library.Sum(text)); got != want {
				t.Errorf("Sum(%x): %x, want %x", text, got, want)
			}
		}
	}
	for range 50 {
		text := r.text(r.below(100000))
		if got, want := Sum(text), Digest(library.Sum(text)); got != want {
			t.Errorf("Sum of %d bytes: %x, want %x", len(text), got, want)
		}
	}
}

// P9.1: what lies behind a text's end, in its capacity, is no part of it.
func TestSpareCapacityIsNoText(t *testing.T) {
	whole := []byte("abcdef")
	if got := Hex(Sum(whole[:3])); got != "a9993e364706816aba3e25717850c26c9cd0d89d" {
		t.Errorf("Sum of a text with more behind it: %s", got)
	}
	parts := [][]byte{whole[:1], whole[1:3], []byte("never"), []byte("seen")}
	if got := Hex(Of(parts[:2]...)); got != "a9993e364706816aba3e25717850c26c9cd0d89d" {
		t.Errorf("Of parts with more behind them: %s", got)
	}
}

// P9.2: two and three parts, at all places of texts of up to three blocks.
func TestOfFewParts(t *testing.T) {
	r := random(2)
	for _, length := range []int{0, 1, 2, 54, 55, 56, 57, 63, 64, 65, 119, 120, 127, 128, 129, 150} {
		text := r.text(length)
		want := Sum(text)
		for i := range length + 1 {
			if got := Of(text[:i], text[i:]); got != want {
				t.Errorf("Of a text of %d bytes, divided at %d: %x, want %x", length, i, got, want)
			}
			for k := i; k <= length; k++ {
				if got := Of(text[:i], text[i:k], text[k:]); got != want {
					t.Errorf("Of a text of %d bytes, divided at %d and %d: %x, want %x", length, i, k, got, want)
				}
			}
		}
	}
}

// P9.2: any division, with empty parts among them.
func TestOfManyParts(t *testing.T) {
	r := random(3)
	for _, longest := range []int{1, 2, 3, 10, 63, 64, 65, 100, 1000} {
		for range 40 {
			text := r.text(r.below(3000))
			parts := r.divided(text, longest)
			if got, want := Of(parts...), Digest(library.Sum(text)); got != want {
				t.Errorf("Of(%x): %x, want %x", parts, got, want)
			}
		}
	}
	text := r.text(300)
	var single [][]byte
	for i := range text {
		single = append(single, text[i:i+1])
	}
	if got, want := Of(single...), Sum(text); got != want {
		t.Errorf("Of single bytes: %x, want %x", got, want)
	}
}

// P9.2: parts may be the same memory, and their order counts.
func TestOfPartsInOrder(t *testing.T) {
	part := []byte("horologe")
	if got, want := Of(part, part, part), Sum(bytes.Repeat(part, 3)); got != want {
		t.Errorf("Of a part three times: %x, want %x", got, want)
	}
	if Of([]byte("a"), []byte("b")) == Of([]byte("b"), []byte("a")) {
		t.Error("the order of parts doesn't count")
	}
	if Of([]byte("a"), []byte{0}) == Of([]byte("a")) || Of([]byte{0}) == Of(nil) {
		t.Error("a zero doesn't count")
	}
}

// P9.1: texts and parts stay as they are, with their spare capacity.
func TestArgumentsStay(t *testing.T) {
	r := random(4)
	for _, length := range []int{0, 1, 55, 56, 63, 64, 65, 200} {
		whole := r.text(length + 300)
		before := bytes.Clone(whole)
		Sum(whole[100 : 100+length])
		parts := [][]byte{whole[50:60], nil, whole[100 : 100+length], whole[:5], nil}
		held := slices.Clone(parts)
		Of(parts[:3]...)
		Of(parts[:0]...)
		if !bytes.Equal(whole, before) {
			t.Errorf("texts of %d bytes were changed", length)
		}
		for i := range parts {
			if !bytes.Equal(parts[i], held[i]) || (parts[i] == nil) != (held[i] == nil) {
				t.Errorf("part %d of %d bytes was changed", i, length)
			}
		}
	}
}

// P9.1
func TestWordsAndFromByHand(t *testing.T) {
	d := Digest{1, 2, 3, 4, 0xff, 0xfe, 0xfd, 0xfc, 0, 0, 0, 0, 0x80, 0, 0, 0, 0, 0, 0, 9}
	w := [5]uint32{0x01020304, 0xfffefdfc, 0, 0x80000000, 9}
	if got := Words(d); got != w {
		t.Errorf("Words: %x, want %x", got, w)
	}
	if got := From(w); got != d {
		t.Errorf("From: %x, want %x", got, d)
	}
	if Words(Digest{}) != [5]uint32{} || From([5]uint32{}) != (Digest{}) {
		t.Error("zeros have other words")
	}
	if got, want := Words(Sum([]byte("abc"))), [5]uint32{0xa9993e36, 0x4706816a, 0xba3e2571, 0x7850c26c, 0x9cd0d89d}; got != want {
		t.Errorf("Words of abc's digest: %x, want %x", got, want)
	}
}

// P9.1
func TestWordsAndFrom(t *testing.T) {
	r := random(5)
	var states [][5]uint32
	for range 500 {
		states = append(states, r.state())
	}
	for at := range 5 {
		for _, w := range edges() {
			var state [5]uint32
			state[at] = w
			states = append(states, state)
		}
	}
	for _, w := range states {
		d := From(w)
		for i := range w {
			if got := binary.BigEndian.Uint32(d[4*i:]); got != w[i] {
				t.Errorf("From(%x): word %d is %x", w, i, got)
			}
		}
		if got := Words(d); got != w {
			t.Errorf("Words(From(%x)): %x", w, got)
		}
	}
}

// P9.1: each byte in each place, as two lowercase characters.
func TestHex(t *testing.T) {
	if got, want := Hex(Digest{0, 1, 9, 0x0a, 0x0f, 0x10, 0x90, 0xa0, 0xf0, 0xff}), "0001090a0f1090a0f0ff00000000000000000000"; got != want {
		t.Errorf("Hex: %s, want %s", got, want)
	}
	for at := range len(Digest{}) {
		for b := range 256 {
			var d Digest
			d[at] = byte(b)
			if got, want := Hex(d), hex.EncodeToString(d[:]); got != want {
				t.Errorf("Hex(%v): %s, want %s", d, got, want)
			}
		}
	}
}

// P9.1: the lengths at which one more block is needed, no text, and lengths to which nothing can be added.
func TestBlocksByHand(t *testing.T) {
	for _, c := range []struct {
		n, want int
	}{
		{0, 1}, {1, 1}, {54, 1}, {55, 1},
		{56, 2}, {57, 2}, {63, 2}, {64, 2}, {65, 2}, {118, 2}, {119, 2},
		{120, 3}, {127, 3}, {128, 3}, {183, 3}, {184, 4},
		{1000000, 15626},
		{-1, 0}, {-8, 0}, {-9, 0}, {-55, 0}, {-56, 0}, {-63, 0}, {-64, 0}, {-65, 0}, {-1000, 0},
		{math.MinInt, 0}, {math.MinInt + 1, 0}, {math.MinInt32, 0},
		{math.MaxInt32, 1<<25 + 1},
		{math.MaxInt, 1<<57 + 1},
		{math.MaxInt - 7, 1<<57 + 1}, // 56 bytes of the last block
		{math.MaxInt - 8, 1 << 57},
		{math.MaxInt - 63, 1 << 57},
		{math.MaxInt - 64, 1 << 57},
	} {
		if got := Blocks(c.n); got != c.want {
			t.Errorf("Blocks(%d): %d, want %d", c.n, got, c.want)
		}
	}
}

// P9.1: the least number of blocks that hold a text, a byte and eight more.
func TestBlocks(t *testing.T) {
	var list []int
	for n := range 2000 {
		list = append(list, n, math.MaxInt-n)
	}
	for shift := 11; shift < 63; shift++ {
		for near := -130; near <= 130; near++ {
			list = append(list, 1<<shift+near)
		}
	}
	for _, n := range list {
		many := new(big.Int).Add(big.NewInt(int64(n)), big.NewInt(9+63))
		many.Div(many, big.NewInt(64))
		if got := Blocks(n); big.NewInt(int64(got)).Cmp(many) != 0 {
			t.Errorf("Blocks(%d): %d, want %v", n, got, many)
		}
	}
}

// P9.1: the state after the only block of abc, and what a block does to a state by the library.
func TestStep(t *testing.T) {
	initial := [5]uint32{0x67452301, 0xefcdab89, 0x98badcfe, 0x10325476, 0xc3d2e1f0}
	if got, want := Step(initial, [64]byte{'a', 'b', 'c', 128, 63: 24}), Words(Sum([]byte("abc"))); got != want {
		t.Errorf("Step of abc's block: %x, want %x", got, want)
	}
	r := random(6)
	for range 2000 {
		state, block := r.state(), [64]byte(r.text(64))
		if got, want := Step(state, block), libraryStep(t, state, block); got != want {
			t.Errorf("Step(%x, %x): %x, want %x", state, block, got, want)
		}
	}
	for at := range 5 {
		for _, w := range edges() {
			var state [5]uint32
			state[at] = w
			for _, block := range [][64]byte{{}, [64]byte(bytes.Repeat([]byte{0xff}, 64)), [64]byte(r.text(64))} {
				if got, want := Step(state, block), libraryStep(t, state, block); got != want {
					t.Errorf("Step(%x, %x): %x, want %x", state, block, got, want)
				}
			}
		}
	}
	for bit := range 512 {
		var block [64]byte
		block[bit/8] = 1 << (bit % 8)
		if got, want := Step(initial, block), libraryStep(t, initial, block); got != want {
			t.Errorf("Step of a block with bit %d: %x, want %x", bit, got, want)
		}
	}
}

// P9.1: a digest is the last state of as many steps as there are blocks.
func TestStepsMakeSum(t *testing.T) {
	r := random(7)
	for length := range 300 {
		text := r.text(length)
		full := append(bytes.Clone(text), 128)
		for len(full)%64 != 56 {
			full = append(full, 0)
		}
		full = binary.BigEndian.AppendUint64(full, 8*uint64(length))
		if len(full) != 64*Blocks(length) {
			t.Fatalf("Blocks(%d): %d, but the padded text has %d bytes", length, Blocks(length), len(full))
		}
		state := [5]uint32{0x67452301, 0xefcdab89, 0x98badcfe, 0x10325476, 0xc3d2e1f0}
		for i := range Blocks(length) {
			state = Step(state, [64]byte(full[64*i:]))
		}
		if got, want := From(state), Sum(text); got != want {
			t.Errorf("steps of %d bytes: %x, want %x", length, got, want)
		}
	}
}

// P9.1: the length of a text may need more than 32 bits.
func TestPaddingOfLongTexts(t *testing.T) {
	r := random(8)
	for shift := 6; shift < 60; shift++ {
		for rest := range 64 {
			length := 1<<shift + rest
			state, tail := r.state(), r.text(rest)
			want := libraryAt(t, state, tail, uint64(length)).Sum(nil)
			for block := range blocks([][]byte{tail, padding(length)}) {
				state = Step(state, block)
			}
			if got := From(state); !bytes.Equal(got[:], want) {
				t.Errorf("padding of %d bytes: %x, want %x", length, got, want)
			}
		}
	}
}

// P9.1: the blocks of a text may be left before their end.
func TestBlocksAreLeft(t *testing.T) {
	r := random(9)
	text := r.text(192)
	for stop := range 4 {
		var got []byte
		for block := range blocks([][]byte{text[:70], text[70:]}) {
			got = append(got, block[:]...)
			if len(got) == 64*(stop+1) {
				break
			}
		}
		if want := text[:64*min(stop+1, 3)]; !bytes.Equal(got, want) {
			t.Errorf("blocks up to %d: %x, want %x", stop, got, want)
		}
	}
}
