package impl

const MaxNum = 2147483647
const MaxText = 30

// MaxNum has 31 bits, and a byte carries seven of them.
const maxNumBytes = 5

const bitsPerByte = 7
const moreFollow byte = 128

func PutNum(b []byte, n int) []byte {
	if n < 0 || n > MaxNum {
		return joined(b, nil)
	}
	cut, size := cutNum(uint32(n))
	return joined(b, cut[:size])
}

func GetNum(b []byte, at int) (int, int) {
	if at < 0 || at >= len(b) {
		return 0, -1
	}
	var cut [maxNumBytes]byte
	there := copy(cut[:], b[at:])
	size := numSize(cut, there)
	if size == 0 {
		return 0, -1
	}
	n := numOf(cut, size)
	if n > MaxNum {
		return 0, -1
	}
	return int(n), at + size
}

func PutText(b []byte, t []byte) []byte {
	if len(t) > MaxText {
		return joined(b, nil)
	}
	return joined(PutNum(b, len(t)), t)
}

func GetText(b []byte, at int) ([]byte, int) {
	size, from := GetNum(b, at)
	if from < 0 || size > MaxText || size > len(b)-from {
		return nil, -1
	}
	return joined(nil, b[from:from+size]), from + size
}

// joined makes its own memory even where one side is empty, so that no answer
// shares any with an argument or reaches into the spare room behind it.
func joined(a []byte, b []byte) []byte {
	all := make([]byte, len(a)+len(b))
	copy(all, a)
	copy(all[len(a):], b)
	return all
}

// cutNum answers the bytes of a number that is at most MaxNum, and how many of
// the five are in use.
func cutNum(n uint32) ([maxNumBytes]byte, int) {
	var cut [maxNumBytes]byte
	size := 0
	for n >= uint32(moreFollow) {
		cut[size] = byte(n) | moreFollow
		n >>= bitsPerByte
		size++
	}
	cut[size] = byte(n)
	return cut, size + 1
}

// numSize answers how many of the bytes that are there make up one number; 0
// when none of them ends it, or when a shorter run would stand for the same.
func numSize(cut [maxNumBytes]byte, there int) int {
	for i := range there {
		if cut[i] >= moreFollow {
			continue
		}
		if cut[i] == 0 && i > 0 {
			return 0
		}
		return i + 1
	}
	return 0
}

// numOf takes 64 bits, as five bytes carry up to 35: more than MaxNum must be
// seen, not cut off.
func numOf(cut [maxNumBytes]byte, size int) uint64 {
	n := uint64(0)
	for i := range size {
		n |= uint64(cut[i]&^moreFollow) << (bitsPerByte * i)
	}
	return n
}
