package octets

import (
	"bytes"
	"encoding/binary"
	"math"
	"math/big"
	"slices"
	"testing"

	"horologe/api"
)

type (
	own8  uint8
	own16 uint16
	own32 uint32
	own64 uint64
)

// text is some bytes that are all different, and none of them 0.
func text(many int) []byte {
	b := make([]byte, many)
	for i := range b {
		b[i] = byte(255 - i)
	}
	return b
}

// words are the powers of 2 with their neighbours, the ends of the range, and words of all sizes, the same in each run.
func words[T Word]() []T {
	list := []T{0, 1, 2, 7, 0x7f, 0x80, ^T(0), ^T(0) - 1}
	state := uint64(0x9e3779b97f4a7c15)
	for shift := range 64 {
		power := T(uint64(1) << shift)
		list = append(list, power, power-1, power+1)
		state ^= state << 13
		state ^= state >> 7
		state ^= state << 17
		list = append(list, T(state>>shift), T(state))
	}
	return list
}

// wantPut is Put by the library.
func wantPut[T Word](t *testing.T, b []byte, words ...T) []byte {
	out, err := binary.Append(bytes.Clone(b), binary.BigEndian, words)
	if err != nil {
		t.Fatal(err)
	}
	return out
}

// wantRoom is the error if bytes don't have many parts of a size from an offset on, by numbers without bounds.
func wantRoom(length, at, many, size int) error {
	if at < 0 || at > length || many < 0 {
		return api.ErrRange
	}
	end := new(big.Int).Mul(big.NewInt(int64(many)), big.NewInt(int64(size)))
	end.Add(end, big.NewInt(int64(at)))
	if end.Cmp(big.NewInt(int64(length))) > 0 {
		return api.ErrShort
	}
	return nil
}

// ends are numbers around 0 and around the ends of their range, and those whose product by a size wraps around.
func ends() []int {
	list := []int{math.MinInt, math.MinInt + 1, math.MinInt32, math.MaxInt32, math.MaxInt - 1, math.MaxInt}
	for shift := 58; shift < 63; shift++ {
		list = append(list, 1<<shift, 1<<shift-1, 1<<shift+1, -1<<shift)
	}
	for i := -10; i <= 30; i++ {
		list = append(list, i)
	}
	return list
}

// P3.1
func TestSize(t *testing.T) {
	for _, c := range []struct {
		got, want int
	}{
		{Size[uint8](), 1}, {Size[uint16](), 2}, {Size[uint32](), 4}, {Size[uint64](), 8},
		{Size[own8](), 1}, {Size[own16](), 2}, {Size[own32](), 4}, {Size[own64](), 8},
	} {
		if c.got != c.want {
			t.Errorf("Size: %d, want %d", c.got, c.want)
		}
	}
}

// P3.1
func TestPutByHand(t *testing.T) {
	for i, c := range []struct {
		got, want []byte
	}{
		{Put(nil, uint16(258)), []byte{1, 2}},
		{Put([]byte{}, uint16(258)), []byte{1, 2}},
		{Put(nil, uint8(1), 2, 255), []byte{1, 2, 255}},
		{Put([]byte{9, 8}, uint16(0xfffe), 0, 1), []byte{9, 8, 0xff, 0xfe, 0, 0, 0, 1}},
		{Put([]byte{9}, uint32(0x83aa7e80)), []byte{9, 0x83, 0xaa, 0x7e, 0x80}},
		{Put([]byte{9}, uint64(0x0102030405060708), 1<<63), []byte{9, 1, 2, 3, 4, 5, 6, 7, 8, 0x80, 0, 0, 0, 0, 0, 0, 0}},
		{Put([]byte{0}, own8(7)), []byte{0, 7}},
		{Put([]byte{0}, own16(7)), []byte{0, 0, 7}},
		{Put([]byte{0}, own32(7)), []byte{0, 0, 0, 0, 7}},
		{Put([]byte{0}, own64(7)), []byte{0, 0, 0, 0, 0, 0, 0, 0, 7}},
		{Put[uint64]([]byte{3, 4}), []byte{3, 4}},
		{Put[uint8](nil), nil},
		{Put[uint32]([]byte{}), nil},
	} {
		if !bytes.Equal(c.got, c.want) {
			t.Errorf("%d: %v, want %v", i, c.got, c.want)
		}
	}
}

// P3.1
func TestPut(t *testing.T) {
	t.Run("8", testPut[uint8])
	t.Run("16", testPut[uint16])
	t.Run("32", testPut[uint32])
	t.Run("64", testPut[uint64])
	t.Run("own8", testPut[own8])
	t.Run("own16", testPut[own16])
	t.Run("own32", testPut[own32])
	t.Run("own64", testPut[own64])
}

func testPut[T Word](t *testing.T) {
	list := words[T]()
	for length := range 10 {
		b := text(length)
		for at, w := range list {
			if got, want := Put(b, w), wantPut(t, b, w); !bytes.Equal(got, want) {
				t.Errorf("Put(%v, %d): %v, want %v", b, w, got, want)
			}
			for many := range 5 {
				some := list[at:min(at+many, len(list))]
				if got, want := Put(b, some...), wantPut(t, b, some...); !bytes.Equal(got, want) {
					t.Errorf("Put(%v, %v): %v, want %v", b, some, got, want)
				}
			}
		}
		if got, want := Put(b, list...), wantPut(t, b, list...); !bytes.Equal(got, want) {
			t.Errorf("Put(%v, %v): %v, want %v", b, list, got, want)
		}
	}
}

// P3.1
func TestGetByHand(t *testing.T) {
	b := []byte{9, 1, 2, 3, 4, 0xff, 0xfe, 0xfd, 0xfc}
	for _, c := range []struct {
		at   int
		want uint32
		err  error
	}{
		{0, 0x09010203, nil},
		{1, 0x01020304, nil},
		{4, 0x04fffefd, nil},
		{5, 0xfffefdfc, nil},
		{6, 0, api.ErrShort},
		{8, 0, api.ErrShort},
		{9, 0, api.ErrShort}, // the number of bytes itself isn't out of range
		{10, 0, api.ErrRange},
		{-1, 0, api.ErrRange},
		{math.MinInt, 0, api.ErrRange},
		{math.MaxInt, 0, api.ErrRange},
	} {
		if w, err := Get[uint32](b, c.at); w != c.want || err != c.err {
			t.Errorf("Get(%d): %x, %v; want %x, %v", c.at, w, err, c.want, c.err)
		}
	}
	if w, err := Get[uint8](b, 8); w != 0xfc || err != nil {
		t.Errorf("Get of a byte: %x, %v", w, err)
	}
	if w, err := Get[uint64](b, 1); w != 0x01020304fffefdfc || err != nil {
		t.Errorf("Get of eight bytes: %x, %v", w, err)
	}
	if w, err := Get[uint64](b, 2); w != 0 || err != api.ErrShort {
		t.Errorf("Get of seven bytes: %x, %v", w, err)
	}
	if w, err := Get[uint8](nil, 0); w != 0 || err != api.ErrShort {
		t.Errorf("Get of no bytes: %x, %v", w, err)
	}
	if w, err := Get[uint8](nil, 1); w != 0 || err != api.ErrRange {
		t.Errorf("Get behind no bytes: %x, %v", w, err)
	}
}

// P3.1
func TestGetAndSet(t *testing.T) {
	t.Run("8", testGetAndSet[uint8])
	t.Run("16", testGetAndSet[uint16])
	t.Run("32", testGetAndSet[uint32])
	t.Run("64", testGetAndSet[uint64])
	t.Run("own8", testGetAndSet[own8])
	t.Run("own16", testGetAndSet[own16])
	t.Run("own32", testGetAndSet[own32])
	t.Run("own64", testGetAndSet[own64])
}

func testGetAndSet[T Word](t *testing.T) {
	size := Size[T]()
	w := T(0x0102030405060708 & uint64(^T(0)))
	for length := range 20 {
		b := text(length)
		for _, at := range ends() {
			var want T
			var wantSet []byte
			wantErr := wantRoom(length, at, 1, size)
			if wantErr == nil {
				if _, err := binary.Decode(b[at:], binary.BigEndian, &want); err != nil {
					t.Fatal(err)
				}
				wantSet = append(wantPut(t, b[:at], w), b[at+size:]...)
			}
			if got, err := Get[T](b, at); got != want || err != wantErr {
				t.Errorf("Get(%v, %d): %x, %v; want %x, %v", b, at, got, err, want, wantErr)
			}
			if got, err := Set(b, at, w); !bytes.Equal(got, wantSet) || err != wantErr {
				t.Errorf("Set(%v, %d, %x): %v, %v; want %v, %v", b, at, w, got, err, wantSet, wantErr)
			}
		}
	}
}

// P3.1
func TestSetByHand(t *testing.T) {
	for _, c := range []struct {
		at   int
		want []byte
		err  error
	}{
		{0, []byte{1, 2, 7, 6, 5}, nil},
		{1, []byte{9, 1, 2, 6, 5}, nil},
		{3, []byte{9, 8, 7, 1, 2}, nil},
		{4, nil, api.ErrShort},
		{5, nil, api.ErrShort},
		{6, nil, api.ErrRange},
		{-1, nil, api.ErrRange},
		{math.MinInt, nil, api.ErrRange},
		{math.MaxInt, nil, api.ErrRange},
	} {
		if got, err := Set([]byte{9, 8, 7, 6, 5}, c.at, uint16(258)); !bytes.Equal(got, c.want) || err != c.err {
			t.Errorf("Set(%d): %v, %v; want %v, %v", c.at, got, err, c.want, c.err)
		}
	}
	if got, err := Set(nil, 0, uint8(5)); len(got) != 0 || err != api.ErrShort {
		t.Errorf("Set of no bytes: %v, %v", got, err)
	}
}

// P3.1
func TestListByHand(t *testing.T) {
	b := []byte{9, 1, 2, 3, 4, 5, 6}
	for _, c := range []struct {
		at, many int
		want     []uint16
		err      error
	}{
		{0, 3, []uint16{0x0901, 0x0203, 0x0405}, nil},
		{1, 3, []uint16{0x0102, 0x0304, 0x0506}, nil},
		{1, 2, []uint16{0x0102, 0x0304}, nil},
		{5, 1, []uint16{0x0506}, nil},
		{5, 0, nil, nil},
		{7, 0, nil, nil},
		{0, 4, nil, api.ErrShort}, // half a word is there
		{1, 4, nil, api.ErrShort},
		{6, 1, nil, api.ErrShort},
		{7, 1, nil, api.ErrShort},
		{0, 1 << 63 / 2, nil, api.ErrShort}, // as bytes, 0 if it wraps around
		{0, math.MaxInt, nil, api.ErrShort},
		{7, math.MaxInt, nil, api.ErrShort},
		{8, 0, nil, api.ErrRange},
		{-1, 1, nil, api.ErrRange},
		{0, -1, nil, api.ErrRange},
		{7, -1, nil, api.ErrRange}, // short as well as negative
		{8, math.MaxInt, nil, api.ErrRange},
		{0, math.MinInt, nil, api.ErrRange},
		{math.MinInt, 1, nil, api.ErrRange},
		{math.MaxInt, 1, nil, api.ErrRange},
		{math.MaxInt, math.MaxInt, nil, api.ErrRange},
	} {
		if got, err := List[uint16](b, c.at, c.many); !slices.Equal(got, c.want) || err != c.err {
			t.Errorf("List(%d, %d): %x, %v; want %x, %v", c.at, c.many, got, err, c.want, c.err)
		}
	}
	for _, none := range [][]byte{nil, {}} {
		if got, err := List[uint64](none, 0, 0); len(got) != 0 || err != nil {
			t.Errorf("List of no bytes: %x, %v", got, err)
		}
		if got, err := List[uint64](none, 0, 1); len(got) != 0 || err != api.ErrShort {
			t.Errorf("List of no bytes: %x, %v", got, err)
		}
	}
}

// P3.1
func TestList(t *testing.T) {
	t.Run("8", testList[uint8])
	t.Run("16", testList[uint16])
	t.Run("32", testList[uint32])
	t.Run("64", testList[uint64])
	t.Run("own8", testList[own8])
	t.Run("own16", testList[own16])
	t.Run("own32", testList[own32])
	t.Run("own64", testList[own64])
}

func testList[T Word](t *testing.T) {
	size := Size[T]()
	for length := range 20 {
		b := text(length)
		for _, at := range ends() {
			for _, many := range ends() {
				var want []T
				wantErr := wantRoom(length, at, many, size)
				if wantErr == nil {
					want = make([]T, many)
					if _, err := binary.Decode(b[at:], binary.BigEndian, want); err != nil {
						t.Fatal(err)
					}
				}
				if got, err := List[T](b, at, many); !slices.Equal(got, want) || err != wantErr {
					t.Errorf("List(%v, %d, %d): %x, %v; want %x, %v", b, at, many, got, err, want, wantErr)
				}
			}
		}
	}
}

// P3.1
func TestCut(t *testing.T) {
	for length := range 20 {
		b := text(length)
		for _, at := range ends() {
			for _, many := range ends() {
				var want []byte
				wantErr := wantRoom(length, at, many, 1)
				if wantErr == nil {
					want = b[at:][:many]
				}
				if got, err := Cut(b, at, many); !bytes.Equal(got, want) || err != wantErr {
					t.Errorf("Cut(%v, %d, %d): %v, %v; want %v, %v", b, at, many, got, err, want, wantErr)
				}
			}
		}
	}
}

// P3.1
func TestCutByHand(t *testing.T) {
	b := []byte{9, 1, 2, 3}
	for _, c := range []struct {
		at, many int
		want     []byte
		err      error
	}{
		{0, 4, []byte{9, 1, 2, 3}, nil},
		{1, 2, []byte{1, 2}, nil},
		{3, 1, []byte{3}, nil},
		{2, 0, nil, nil},
		{4, 0, nil, nil},
		{4, 1, nil, api.ErrShort},
		{0, 5, nil, api.ErrShort},
		{1, math.MaxInt, nil, api.ErrShort}, // the end wraps around
		{5, 0, nil, api.ErrRange},
		{-1, 0, nil, api.ErrRange},
		{0, -1, nil, api.ErrRange},
		{4, -4, nil, api.ErrRange},
		{math.MinInt, math.MinInt, nil, api.ErrRange},
		{math.MaxInt, 1, nil, api.ErrRange},
	} {
		if got, err := Cut(b, c.at, c.many); !bytes.Equal(got, c.want) || err != c.err {
			t.Errorf("Cut(%d, %d): %v, %v; want %v, %v", c.at, c.many, got, err, c.want, c.err)
		}
	}
	if got, err := Cut(nil, 0, 0); len(got) != 0 || err != nil {
		t.Errorf("Cut of no bytes: %v, %v", got, err)
	}
	// What lies behind the end, in the capacity, isn't there.
	if got, err := Cut(b[:2], 1, 2); len(got) != 0 || err != api.ErrShort {
		t.Errorf("Cut beyond the end: %v, %v", got, err)
	}
	if got, err := Get[uint16](b[:2], 1); got != 0 || err != api.ErrShort {
		t.Errorf("Get beyond the end: %v, %v", got, err)
	}
	if got, err := List[uint16](b[:3], 1, 1); len(got) != 1 || got[0] != 0x0102 || err != nil {
		t.Errorf("List up to the end: %v, %v", got, err)
	}
}

// P3.1: arguments stay as they are, with their spare capacity, and results share no memory with them.
func TestMemoryIsNew(t *testing.T) {
	for name, call := range map[string]func(b []byte) ([]byte, error){
		"Put":         func(b []byte) ([]byte, error) { return Put(b, uint32(0x01020304), 5), nil },
		"Put nothing": func(b []byte) ([]byte, error) { return Put[uint16](b), nil },
		"Cut":         func(b []byte) ([]byte, error) { return Cut(b, 2, 5) },
		"Cut all":     func(b []byte) ([]byte, error) { return Cut(b, 0, len(b)) },
		"Cut nothing": func(b []byte) ([]byte, error) { return Cut(b, 4, 0) },
		"Set":         func(b []byte) ([]byte, error) { return Set(b, 2, uint64(0x0102030405060708)) },
		"Set at 0":    func(b []byte) ([]byte, error) { return Set(b, 0, uint8(1)) },
		"List": func(b []byte) ([]byte, error) {
			list, err := List[uint8](b, 1, 7)
			return []byte(list), err
		},
		"List nothing": func(b []byte) ([]byte, error) {
			list, err := List[uint8](b, 1, 0)
			return []byte(list), err
		},
	} {
		whole := text(40)
		b := whole[10:20] // with capacity behind it that is in use
		got, err := call(b)
		if err != nil {
			t.Errorf("%s: %v", name, err)
		}
		if !bytes.Equal(whole, text(40)) {
			t.Errorf("%s changed its bytes: %v", name, whole)
		}
		before := bytes.Clone(got)
		clear(whole)
		if !bytes.Equal(got, before) {
			t.Errorf("%s kept its bytes", name)
		}
		whole = text(40)
		got, err = call(whole[10:20])
		if err != nil {
			t.Errorf("%s: %v", name, err)
		}
		clear(got[:cap(got)])
		if !bytes.Equal(whole, text(40)) {
			t.Errorf("%s gave out its bytes: %v", name, whole)
		}
	}
}

// P3.1: the words of a call stay as they are, and aren't kept.
func TestWordsStay(t *testing.T) {
	words := []uint8{1, 2, 3, 4}
	got := Put(nil, words[:3]...)
	if !bytes.Equal(words, []byte{1, 2, 3, 4}) {
		t.Errorf("Put changed its words: %v", words)
	}
	clear(words)
	if !bytes.Equal(got, []byte{1, 2, 3}) {
		t.Errorf("Put kept its words: %v", got)
	}
	words = []uint8{1, 2, 3, 4}
	got = Put(nil, words[:3]...)
	clear(got[:cap(got)])
	if !bytes.Equal(words, []byte{1, 2, 3, 4}) {
		t.Errorf("Put gave out its words: %v", words)
	}
}

// P3.2
func TestWordsAreReadBack(t *testing.T) {
	t.Run("8", testReadBack[uint8])
	t.Run("16", testReadBack[uint16])
	t.Run("32", testReadBack[uint32])
	t.Run("64", testReadBack[uint64])
	t.Run("own8", testReadBack[own8])
	t.Run("own16", testReadBack[own16])
	t.Run("own32", testReadBack[own32])
	t.Run("own64", testReadBack[own64])
}

func testReadBack[T Word](t *testing.T) {
	list := words[T]()
	size := Size[T]()
	for length := range 10 {
		before := text(length)
		b := Put(before, list...)
		if back, err := Cut(b, 0, length); !bytes.Equal(back, before) || err != nil {
			t.Errorf("Cut(0, %d): %v, %v; want %v", length, back, err, before)
		}
		if back, err := List[T](b, length, len(list)); !slices.Equal(back, list) || err != nil {
			t.Errorf("List(%d, %d): %v, %v; want %v", length, len(list), back, err, list)
		}
		if back, err := List[T](b, length, len(list)+1); len(back) != 0 || err != api.ErrShort {
			t.Errorf("List(%d, %d): %v, %v", length, len(list)+1, back, err)
		}
		for i, w := range list {
			if back, err := Get[T](b, length+i*size); back != w || err != nil {
				t.Errorf("Get(%d): %d, %v; want %d", length+i*size, back, err, w)
			}
			set, err := Set(b, length, w)
			if err != nil || len(set) != len(b) {
				t.Errorf("Set(%d, %d): %d bytes, %v", length, w, len(set), err)
				continue
			}
			if back, err := Get[T](set, length); back != w || err != nil {
				t.Errorf("Get after Set of %d: %d, %v", w, back, err)
			}
			if !bytes.Equal(set[:length], before) || !bytes.Equal(set[length+size:], b[length+size:]) {
				t.Errorf("Set(%d, %d) changed other bytes", length, w)
			}
		}
	}
}

// P3.1: the parts of bytes may be left before their end, and a part that isn't whole is none.
func TestParts(t *testing.T) {
	b := []byte{1, 2, 3, 4, 5, 6, 7}
	for stop := range 4 {
		var got []byte
		for i, part := range parts(b, 2) {
			got = append(got, part...)
			if i == stop {
				break
			}
		}
		if want := b[:2*min(stop+1, 3)]; !bytes.Equal(got, want) {
			t.Errorf("parts up to %d: %v, want %v", stop, got, want)
		}
	}
}
