package impl

import (
	"strconv"
	"strings"
)

const (
	MaxText   = 20000
	MaxNumber = 1000000000
	MaxWords  = 600
	MaxParts  = 10
)

const hexFigures = "0123456789abcdef"

func VarText(n int) (string, bool) {
	if n < 0 || n > MaxNumber {
		return "", false
	}
	var out []byte
	for n > 127 {
		out = append(out, byte(n%128+128))
		n /= 128
	}
	return string(append(out, byte(n))), true
}

func ReadVar(text string, at int) (int, int, bool) {
	if at < 0 || at > len(text) {
		return 0, 0, false
	}
	n := 0
	unit := 1
	// A unit above MaxNumber leaves only noughts to come, which a shorter form goes without.
figures:
	for place := at; place < len(text) && unit <= MaxNumber; place++ {
		figure := int(text[place])
		switch {
		case figure > 127:
			n += (figure - 128) * unit
			unit *= 128
		case figure == 0 && place > at:
			break figures
		default:
			n += figure * unit
			if n > MaxNumber {
				break figures
			}
			return n, place + 1, true
		}
	}
	return 0, 0, false
}

func ShortText(s string) (string, bool) {
	if len(s) > MaxText {
		return "", false
	}
	size, ok := VarText(len(s))
	return size + s, ok
}

func ReadShort(text string, at int) (string, int, bool) {
	size, from, ok := ReadVar(text, at)
	if !ok || size > MaxText || size > len(text)-from {
		return "", 0, false
	}
	// A piece of a string would share the memory of the argument.
	return strings.Clone(text[from : from+size]), from + size, true
}

func Hex(text string) (string, bool) {
	if len(text) > MaxText {
		return "", false
	}
	out := make([]byte, 0, 2*len(text))
	for at := range len(text) {
		out = append(out, hexFigures[text[at]/16], hexFigures[text[at]%16])
	}
	return string(out), true
}

func Unhex(text string) (string, bool) {
	if len(text)%2 != 0 || len(text) > 2*MaxText {
		return "", false
	}
	out := make([]byte, len(text)/2)
figures:
	for at := range len(text) {
		for value := range len(hexFigures) {
			if text[at] == hexFigures[value] {
				out[at/2] = out[at/2]*16 + byte(value)
				continue figures
			}
		}
		return "", false
	}
	return string(out), true
}

func Decimal(n int) string {
	return strconv.Itoa(n)
}

func ReadDecimal(text string) (int, bool) {
	n := 0
figures:
	for at := range len(text) {
		figure := text[at]
		switch {
		case figure < '0' || figure > '9' || n > MaxNumber:
			break figures
		default:
			n = n*10 + int(figure-'0')
		}
	}
	// Whatever the loop left early, and every needless nought, is not what Decimal writes.
	if n > MaxNumber || Decimal(n) != text {
		return 0, false
	}
	return n, true
}

func PartsOf(line string) ([]string, bool) {
	if len(line) > MaxWords || !plainLine(line) {
		return []string{}, false
	}
	// In a plain line the blank is the only white space that Fields can meet.
	parts := strings.Fields(line)
	if len(parts) > MaxParts {
		return []string{}, false
	}
	for i := range parts {
		parts[i] = strings.Clone(parts[i])
	}
	return parts, true
}

// plainLine: each byte is in 32 .. 126.
func plainLine(line string) bool {
	for at := range len(line) {
		if line[at] < 32 || line[at] > 126 {
			return false
		}
	}
	return true
}
