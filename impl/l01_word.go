package impl

const (
	maxNumberBytes = 6
	maxHexDigits   = 400
	wordBits       = 32
	hexDigits      = "0123456789abcdef"
)

// putBytes copies b even when nothing comes behind it: an answer must share neither b's bytes nor its spare room.
func putBytes(b []byte, more ...byte) []byte {
	out := make([]byte, 0, len(b)+len(more))
	out = append(out, b...)
	return append(out, more...)
}

func isNumberSize(k int) bool {
	return k >= 1 && k <= maxNumberBytes
}

func highestFirst(n int, k int) []byte {
	out := make([]byte, k)
	for i := k - 1; i >= 0; i-- {
		out[i] = byte(n)
		n >>= 8
	}
	return out
}

func PutN(b []byte, n int, k int) []byte {
	if !isNumberSize(k) {
		return putBytes(b)
	}
	return putBytes(b, highestFirst(n, k)...)
}

// allThere subtracts where a sum of from and n could run over.
func allThere(b []byte, from int, n int) bool {
	return from >= 0 && n >= 0 && n <= len(b)-from
}

func GetN(b []byte, at int, k int) (int, int, bool) {
	if !isNumberSize(k) || !allThere(b, at, k) {
		return 0, 0, false
	}
	n := 0
	for _, x := range b[at : at+k] {
		n = n<<8 | int(x)
	}
	return n, at + k, true
}

func Rot(x int, n int) int {
	word := uint32(x)
	if n < 0 || n >= wordBits {
		return int(word)
	}
	return int(word>>n | word<<(wordBits-n))
}

func Add32(a int, b int) int {
	return int(uint32(a) + uint32(b))
}

func Cut(b []byte, from int, n int) ([]byte, bool) {
	if !allThere(b, from, n) {
		return []byte{}, false
	}
	return putBytes(b[from : from+n]), true
}

func HexText(b []byte) string {
	out := make([]byte, 0, 2*len(b))
	for _, x := range b {
		out = append(out, hexDigits[x>>4], hexDigits[x&15])
	}
	return string(out)
}

func digitValue(r rune) (int, bool) {
	switch {
	case r >= '0' && r <= '9':
		return int(r - '0'), true
	case r >= 'a' && r <= 'f':
		return int(r-'a') + 10, true
	}
	return 0, false
}

// ParseHex may take a rune's place for its number: it gives up at the first rune of more than one byte.
func ParseHex(s string) ([]byte, bool) {
	if len(s) > maxHexDigits || len(s)%2 != 0 {
		return []byte{}, false
	}
	out := make([]byte, 0, len(s)/2)
	high := 0
	for i, r := range s {
		d, ok := digitValue(r)
		if !ok {
			return []byte{}, false
		}
		if i%2 == 0 {
			high = d
		} else {
			out = append(out, byte(high<<4|d))
		}
	}
	return out, true
}
