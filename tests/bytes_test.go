package tests

import (
	"bytes"
	"math"
	"testing"

	"loop.example/g00359/impl"
)

// Promise 1: numbers and texts come back from their bytes, and what is read as
// one is just its bytes.

type numBytes struct {
	n    int
	want []byte
}

func knownNums() []numBytes {
	return []numBytes{
		{0, []byte{0}},
		{1, []byte{1}},
		{127, []byte{127}},
		{128, []byte{128, 1}},
		{300, []byte{172, 2}},
		{16383, []byte{255, 127}},
		{16384, []byte{128, 128, 1}},
		{2097151, []byte{255, 255, 127}},
		{2097152, []byte{128, 128, 128, 1}},
		{268435455, []byte{255, 255, 255, 127}},
		{268435456, []byte{128, 128, 128, 128, 1}},
		{impl.MaxNum - 1, []byte{254, 255, 255, 255, 7}},
		{impl.MaxNum, []byte{255, 255, 255, 255, 7}},
	}
}

// heads are lists to put something behind; the last one holds bytes that could
// be taken for the beginning of a number.
func heads() [][]byte {
	return [][]byte{nil, {}, {9}, {1, 2, 3, 128, 255}}
}

func ascendingBytes(size int) []byte {
	t := make([]byte, size)
	for i := range t {
		t[i] = byte(200 + 7*i)
	}
	return t
}

func TestBytesLimits(t *testing.T) {
	if impl.MaxNum != 2147483647 || impl.MaxText != 30 {
		t.Fatal(impl.MaxNum, impl.MaxText)
	}
}

func TestPutNumGivesTheBytes(t *testing.T) {
	for _, k := range knownNums() {
		for _, head := range heads() {
			want := append(append([]byte{}, head...), k.want...)
			if got := impl.PutNum(head, k.n); !bytes.Equal(got, want) {
				t.Errorf("PutNum(%v, %d) = %v, want %v", head, k.n, got, want)
			}
		}
	}
}

func TestPutNumRefusesWhatIsNoNumber(t *testing.T) {
	// The great ones are in range once they are cut to 32 bits.
	for _, n := range []int{-1, -128, impl.MaxNum + 1, 1 << 32, 1<<32 + 5, 1 << 35, math.MinInt, math.MaxInt} {
		for _, head := range heads() {
			if got := impl.PutNum(head, n); !bytes.Equal(got, head) {
				t.Errorf("PutNum(%v, %d) = %v, want the list alone", head, n, got)
			}
		}
	}
}

func TestGetNumGetsWhatWasPut(t *testing.T) {
	for _, k := range knownNums() {
		for _, head := range heads() {
			for _, behind := range [][]byte{nil, {0}, {1}, {128}, {255, 255, 255, 255, 255, 255}} {
				b := append(impl.PutNum(head, k.n), behind...)
				n, next := impl.GetNum(b, len(head))
				if n != k.n || next != len(head)+len(k.want) {
					t.Errorf("GetNum(%v, %d) = %d, %d, want %d, %d", b, len(head), n, next, k.n, len(head)+len(k.want))
				}
			}
		}
	}
}

func TestGetNumRefusesWhatIsNoNumber(t *testing.T) {
	cases := []struct {
		why string
		b   []byte
		at  int
	}{
		{"nothing", nil, 0},
		{"nothing, at below 0", nil, -1},
		{"at below 0", []byte{5, 6}, -1},
		{"at far below 0", []byte{5, 6}, math.MinInt},
		{"at the end", []byte{5, 6}, 2},
		{"at past the end", []byte{5, 6}, 3},
		{"at far past the end", []byte{5, 6}, math.MaxInt},
		{"one of two", []byte{128}, 0},
		{"one of two, at 1", []byte{1, 255}, 1},
		{"four of five", []byte{255, 255, 255, 255}, 0},
		{"five that do not end", []byte{255, 255, 255, 255, 255}, 0},
		{"six", []byte{129, 129, 129, 129, 129, 1}, 0},
		{"six, the last ones empty", []byte{129, 128, 128, 128, 128, 0}, 0},
		{"ten", []byte{128, 128, 128, 128, 128, 128, 128, 128, 128, 1}, 0},
		{"the last of two is 0", []byte{128, 0}, 0},
		{"the last of two is 0, with a number behind", []byte{129, 0, 1}, 0},
		{"the last of three is 0", []byte{255, 255, 0}, 0},
		{"the last of five is 0", []byte{255, 255, 255, 255, 0}, 0},
		{"MaxNum + 1", []byte{128, 128, 128, 128, 8}, 0},
		{"32 bits", []byte{255, 255, 255, 255, 15}, 0},
		{"2 to the 32nd", []byte{128, 128, 128, 128, 16}, 0},
		{"2 to the 32nd and 5", []byte{133, 128, 128, 128, 16}, 0},
		{"35 bits", []byte{255, 255, 255, 255, 127}, 0},
	}
	for _, c := range cases {
		if n, next := impl.GetNum(c.b, c.at); n != 0 || next != -1 {
			t.Errorf("%s: GetNum(%v, %d) = %d, %d, want 0, -1", c.why, c.b, c.at, n, next)
		}
	}
}

// plainGetNum reads by products and sums what the program reads by shifts.
func plainGetNum(b []byte, at int) (int, int) {
	n, worth := 0, 1
	for i := at; i >= 0 && i < len(b) && i < at+5; i++ {
		n += int(b[i]%128) * worth
		worth *= 128
		if b[i] < 128 {
			if n > 2147483647 || i > at && b[i] == 0 {
				break
			}
			return n, i + 1
		}
	}
	return 0, -1
}

func checkReadNum(t *testing.T, b []byte, at int) {
	n, next := impl.GetNum(b, at)
	wantN, wantNext := plainGetNum(b, at)
	if n != wantN || next != wantNext {
		t.Fatalf("GetNum(%v, %d) = %d, %d, want %d, %d", b, at, n, next, wantN, wantNext)
	}
	if next < 0 {
		return
	}
	if again := impl.PutNum(b[:at], n); !bytes.Equal(again, b[:next]) {
		t.Fatalf("%v was read from %d to %d as %d, whose bytes are %v", b, at, next, n, again[at:])
	}
}

func TestWhatIsReadAsNumberIsItsBytes(t *testing.T) {
	for x := range 256 {
		for y := range 256 {
			for at := -1; at <= 3; at++ {
				checkReadNum(t, []byte{byte(x), byte(y)}, at)
			}
		}
	}
	edges := []byte{0, 1, 7, 8, 127, 128, 255}
	everyList(edges, 6, func(b []byte) { checkReadNum(t, b, 0) })
}

// everyList shows all lists of that size whose bytes are among these.
func everyList(among []byte, size int, show func([]byte)) {
	b := make([]byte, size)
	var fill func(int)
	fill = func(i int) {
		if i == size {
			show(b)
			return
		}
		for _, x := range among {
			b[i] = x
			fill(i + 1)
		}
	}
	fill(0)
}

func TestManyNumbersComeBack(t *testing.T) {
	check := func(n int) {
		b := impl.PutNum(nil, n)
		if got, next := impl.GetNum(b, 0); got != n || next != len(b) {
			t.Fatalf("%d comes back from %v as %d, %d", n, b, got, next)
		}
	}
	for n := range 70000 {
		check(n)
		check(impl.MaxNum - n)
	}
	for n := 0; n <= impl.MaxNum; n += 10007 {
		check(n)
	}
}

func TestPutTextGivesTheBytes(t *testing.T) {
	for size := range impl.MaxText + 1 {
		text := ascendingBytes(size)
		for _, head := range heads() {
			want := append(append(append([]byte{}, head...), byte(size)), text...)
			if got := impl.PutText(head, text); !bytes.Equal(got, want) {
				t.Errorf("PutText(%v, %v) = %v, want %v", head, text, got, want)
			}
		}
	}
}

func TestPutTextRefusesLongTexts(t *testing.T) {
	for _, size := range []int{impl.MaxText + 1, impl.MaxText + 2, 127, 128, 256, 300} {
		for _, head := range heads() {
			if got := impl.PutText(head, ascendingBytes(size)); !bytes.Equal(got, head) {
				t.Errorf("PutText(%v, %d bytes) = %v, want the list alone", head, size, got)
			}
		}
	}
}

func TestGetTextGetsWhatWasPut(t *testing.T) {
	for size := range impl.MaxText + 1 {
		text := ascendingBytes(size)
		for _, head := range heads() {
			for _, behind := range [][]byte{nil, {0}, {255, 1}} {
				b := append(impl.PutText(head, text), behind...)
				got, next := impl.GetText(b, len(head))
				if !bytes.Equal(got, text) || next != len(head)+1+size {
					t.Errorf("GetText(%v, %d) = %v, %d, want %v, %d", b, len(head), got, next, text, len(head)+1+size)
				}
			}
		}
	}
}

func TestEveryByteComesBackInText(t *testing.T) {
	for x := range 256 {
		b := impl.PutText(nil, []byte{byte(x)})
		if got, next := impl.GetText(b, 0); !bytes.Equal(got, []byte{byte(x)}) || next != 2 {
			t.Errorf("byte %d comes back as %v, %d", x, got, next)
		}
	}
}

func TestGetTextRefusesWhatIsNoText(t *testing.T) {
	long := append([]byte{impl.MaxText + 1}, make([]byte, 200)...)
	full := append([]byte{impl.MaxText}, make([]byte, impl.MaxText)...)
	cases := []struct {
		why string
		b   []byte
		at  int
	}{
		{"nothing", nil, 0},
		{"at below 0", []byte{1, 65}, -1},
		{"at far below 0", []byte{1, 65}, math.MinInt},
		{"at the end", []byte{1, 65}, 2},
		{"at past the end", []byte{1, 65}, 3},
		{"at far past the end", []byte{1, 65}, math.MaxInt},
		{"no byte of one", []byte{1}, 0},
		{"one byte of two", []byte{2, 65}, 0},
		{"one byte of two, at 1", []byte{0, 2, 65}, 1},
		{"all but one of MaxText", full[:impl.MaxText], 0},
		{"MaxText + 1, all there", long, 0},
		{"128, all there", append([]byte{128, 1}, make([]byte, 128)...), 0},
		{"256, all there", append([]byte{128, 2}, make([]byte, 256)...), 0},
		{"MaxNum", []byte{255, 255, 255, 255, 7, 65}, 0},
		{"a length above MaxNum", []byte{129, 128, 128, 128, 16, 65}, 0},
		{"a length cut off", []byte{129}, 0},
		{"a length of six bytes", []byte{129, 128, 128, 128, 128, 0, 65}, 0},
		{"a length whose last byte is 0", []byte{129, 0, 65}, 0},
	}
	for _, c := range cases {
		if got, next := impl.GetText(c.b, c.at); len(got) != 0 || next != -1 {
			t.Errorf("%s: GetText(%v, %d) = %v, %d, want nothing, -1", c.why, c.b, c.at, got, next)
		}
	}
}

func TestWhatIsReadAsTextIsItsBytes(t *testing.T) {
	read := 0
	everyList([]byte{0, 1, 2, 3, 30, 31, 128, 255}, 5, func(b []byte) {
		for at := -1; at <= len(b); at++ {
			got, next := impl.GetText(b, at)
			if next < 0 {
				continue
			}
			read++
			if again := impl.PutText(b[:at], got); !bytes.Equal(again, b[:next]) {
				t.Fatalf("%v was read from %d to %d as %v, whose bytes are %v", b, at, next, got, again[at:])
			}
		}
	})
	if read == 0 {
		t.Fatal("no text was read")
	}
}

// withRoom answers a list that has room behind it, and the memory of both.
func withRoom(b []byte) (list []byte, memory []byte) {
	memory = append(append([]byte{}, b...), bytes.Repeat([]byte{77}, 64)...)
	return memory[:len(b)], memory
}

// checkApart writes into the answer and the room behind it, and wants the
// memory of an argument to stay as it was ahead of the call.
func checkApart(t *testing.T, what string, answer []byte, memory []byte, before []byte) {
	t.Helper()
	if !bytes.Equal(memory, before) {
		t.Errorf("%s: the call wrote into its argument's memory", what)
	}
	answer = answer[:cap(answer)]
	for i := range answer {
		answer[i] ^= 255
	}
	if !bytes.Equal(memory, before) {
		t.Errorf("%s: the answer shares memory with an argument", what)
	}
}

func TestPutAnswersAreNewMemory(t *testing.T) {
	for _, head := range [][]byte{{}, {9}, {1, 2, 3, 128}} {
		for _, n := range []int{-1, 0, 300, impl.MaxNum, impl.MaxNum + 1} {
			b, memory := withRoom(head)
			before := bytes.Clone(memory)
			checkApart(t, "PutNum", impl.PutNum(b, n), memory, before)
		}
		for _, size := range []int{0, 1, impl.MaxText, impl.MaxText + 1} {
			b, memory := withRoom(head)
			before := bytes.Clone(memory)
			text, textMemory := withRoom(ascendingBytes(size))
			textBefore := bytes.Clone(textMemory)
			got := impl.PutText(b, text)
			if !bytes.Equal(textMemory, textBefore) {
				t.Error("PutText wrote into its text's memory")
			}
			checkApart(t, "PutText", got, memory, before)
			checkApart(t, "PutText, the text", got, textMemory, textBefore)
		}
	}
}

func TestPutTextOfTheListItself(t *testing.T) {
	b, memory := withRoom([]byte{5, 6, 7})
	before := bytes.Clone(memory)
	got := impl.PutText(b, b)
	if !bytes.Equal(got, []byte{5, 6, 7, 3, 5, 6, 7}) {
		t.Error(got)
	}
	checkApart(t, "PutText of itself", got, memory, before)
}

func TestGetTextAnswerIsNewMemory(t *testing.T) {
	for _, size := range []int{0, 1, impl.MaxText} {
		b, memory := withRoom(impl.PutText([]byte{9}, ascendingBytes(size)))
		before := bytes.Clone(memory)
		got, _ := impl.GetText(b, 1)
		checkApart(t, "GetText", got, memory, before)
	}
}

func TestRoomBehindAListIsNotRead(t *testing.T) {
	num := []byte{128, 128, 128, 1}
	for size := range num {
		if n, next := impl.GetNum(num[:size], 0); n != 0 || next != -1 {
			t.Errorf("GetNum of %d bytes of four = %d, %d", size, n, next)
		}
	}
	text := []byte{3, 65, 66, 67}
	for size := range text {
		if got, next := impl.GetText(text[:size], 0); len(got) != 0 || next != -1 {
			t.Errorf("GetText of %d bytes of four = %v, %d", size, got, next)
		}
	}
}
