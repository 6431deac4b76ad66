package journal

// pair is how many bytes a number of 16 bits has: ahead of a record's text, and behind it.
const pair = 2

func appendPair(b []byte, n uint16) []byte { return append(b, byte(n>>8), byte(n)) }

// pairOf is the number that b begins with.
func pairOf(b []byte) uint16 { return uint16(b[0])<<8 | uint16(b[1]) }

// record is a text with its length ahead and a check sum behind; what is written of a statement is short enough for two bytes.
func record(text string) []byte {
	out := appendPair(nil, uint16(len(text)))
	out = append(out, text...)
	return appendPair(out, checkSum(out))
}

// recordAt is the text of the record that b begins with, and how many bytes that record has; empty, if it is torn or its check sum is wrong.
func recordAt(b []byte) (string, int) {
	if len(b) < pair {
		return "", 0
	}
	end := pair + int(pairOf(b))
	if len(b) < end+pair || pairOf(b[end:]) != checkSum(b[:end]) {
		return "", 0
	}
	return string(b[pair:end]), end + pair
}

// What the check sum begins with, and what is mixed in.
const (
	firstSum = 0x1D0F
	mixedIn  = 0x1021
)

// checkSum is what a register of 16 bits holds when all bits have gone by, the highest one of each byte first.
func checkSum(b []byte) uint16 {
	sum := uint16(firstSum)
	for _, c := range b {
		for i := 7; i >= 0; i-- {
			differs := uint16(c>>i)&1 != sum>>15
			sum <<= 1
			if differs {
				sum ^= mixedIn
			}
		}
	}
	return sum
}
