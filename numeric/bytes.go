package numeric

import "midrange/api"

// Half bytes: zones and signs. Several signs can be read; these two are written.
const (
	zone         = 15
	signPositive = 15
	signNegative = 13
	readNegative = 11 // a sign below 0, too, that is never written
	leastSign    = 10
)

// Encode returns the bytes of a value.
func Encode(t api.DataType, v api.Value) (string, api.Errno) {
	if e := CheckValue(t, v); e != api.OK {
		return "", e
	}
	return bytesOf(t, v), api.OK
}

// bytesOf returns the bytes of a right value.
func bytesOf(t api.DataType, v api.Value) string {
	switch t.Kind {
	case api.DataPacked:
		return packedBytes(t, v.N)
	case api.DataZoned:
		return zonedBytes(t, v.N)
	case api.DataBinary:
		return binaryBytes(t, v.N)
	}
	return v.S
}

func signOf(n int) byte {
	if n < 0 {
		return signNegative
	}
	return signPositive
}

func amountIn(n int) int {
	if n < 0 {
		return -n
	}
	return n
}

func packedBytes(t api.DataType, n int) string {
	halves := make([]byte, 2*sizeOf(t))
	last := len(halves) - 1
	halves[last] = signOf(n)
	rest := amountIn(n)
	for i := range last {
		halves[last-1-i] = byte(rest % 10)
		rest /= 10
	}
	out := make([]byte, sizeOf(t))
	for i := range len(out) {
		out[i] = halves[2*i]<<4 | halves[2*i+1]
	}
	return string(out)
}

func zonedBytes(t api.DataType, n int) string {
	out := make([]byte, t.Length)
	last := len(out) - 1
	rest := amountIn(n)
	for i := range len(out) {
		out[last-i] = zone<<4 | byte(rest%10)
		rest /= 10
	}
	out[last] = signOf(n)<<4 | out[last]&15
	return string(out)
}

func binaryBytes(t api.DataType, n int) string {
	out := make([]byte, sizeOf(t))
	for i := range len(out) {
		out[len(out)-1-i] = byte(n >> (8 * i))
	}
	return string(out)
}

// Decode returns the value with bytes. Beside an error the number is the offset of the byte that is wrong.
func Decode(t api.DataType, bytes string) (api.Value, int, api.Errno) {
	if e := checkValued(t); e != api.OK {
		return api.Value{}, 0, e
	}
	if len(bytes) != sizeOf(t) {
		return api.Value{}, 0, api.ErrLength
	}
	switch t.Kind {
	case api.DataPacked:
		return readDecimal(packedHalves(t, bytes))
	case api.DataZoned:
		return readDecimal(zonedHalves(bytes))
	case api.DataBinary:
		return readBinary(t, bytes)
	}
	return api.Value{S: bytes}, 0, api.OK
}

// halfByte is a half byte that means something, and the offset of its byte.
type halfByte struct {
	half byte
	most byte // the greatest one that is right
	at   int
}

// packedHalves returns the digits of a packed number, and its sign.
func packedHalves(t api.DataType, bytes string) ([]halfByte, halfByte) {
	var digits []halfByte
	for i := range len(bytes) {
		digits = append(digits, halfByte{bytes[i] >> 4, 9, i}, halfByte{bytes[i] & 15, 9, i})
	}
	if t.Length%2 == 0 {
		digits[0].most = 0
	}
	last := len(digits) - 1
	return digits[:last], digits[last]
}

// zonedHalves returns the digits of a zoned number, and its sign.
func zonedHalves(bytes string) ([]halfByte, halfByte) {
	var digits []halfByte
	for i := range len(bytes) {
		digits = append(digits, halfByte{bytes[i] & 15, 9, i})
	}
	last := len(bytes) - 1
	return digits, halfByte{half: bytes[last] >> 4, at: last}
}

// readDecimal reads the sign at last: no half byte of a byte before the last one stands behind it.
func readDecimal(digits []halfByte, sign halfByte) (api.Value, int, api.Errno) {
	n := 0
	for _, d := range digits {
		if d.half > d.most {
			return api.Value{}, d.at, api.ErrDecimal
		}
		n = 10*n + int(d.half)
	}
	if sign.half < leastSign {
		return api.Value{}, sign.at, api.ErrDecimal
	}
	if isNegative(sign.half) {
		n = -n
	}
	return api.Value{N: n}, 0, api.OK
}

func isNegative(sign byte) bool {
	return sign == readNegative || sign == signNegative
}

func readBinary(t api.DataType, bytes string) (api.Value, int, api.Errno) {
	n := int(int8(bytes[0])) // the highest byte has the sign
	for i := range len(bytes) - 1 {
		n = n<<8 | int(bytes[i+1])
	}
	if !fits(n, t) {
		return api.Value{}, 0, api.ErrOverflow
	}
	return api.Value{N: n}, 0, api.OK
}
