// Package digit is layer 2: numbers and bytes as digits.
package digit

import (
	"math"

	"spinet/api"
)

// signs are the digits, each at the place of its value.
const signs = "0123456789ABCDEF"

// How many digits the greatest number has, to the base 16 and to the base 10.
const (
	mostHex = 16
	mostDec = 20
)

// Hex: a number's digits to the base 16, at least so many (1 to 16).
func Hex(n uint64, width int) string {
	var d [mostHex]byte
	need := min(max(width, 1), mostHex)
	for i := range mostHex {
		v := n >> (4 * i) & 15
		d[mostHex-1-i] = signs[v]
		if v > 0 {
			need = max(need, i+1)
		}
	}
	return string(d[mostHex-need:])
}

// Read: the number of digits to the base 16. ErrForm; ErrSize: they are more than 16.
func Read(s string) (uint64, api.Errno) {
	if e := check(s, 16, mostHex); e != api.OK {
		return 0, e
	}
	var n uint64
	for i := range len(s) {
		n = n<<4 | uint64(value(s[i]))
	}
	return n, api.OK
}

// Dec: a number's digits to the base 10.
func Dec(n uint64) string {
	var d [mostDec]byte
	need := 1
	for i := range mostDec {
		v := n % 10
		n /= 10
		d[mostDec-1-i] = signs[v]
		if v > 0 {
			need = i + 1
		}
	}
	return string(d[mostDec-need:])
}

// ReadDec: the number of digits to the base 10. ErrForm; ErrSize: they are more than 20; ErrOver: there is no such number.
func ReadDec(s string) (uint64, api.Errno) {
	if e := check(s, 10, mostDec); e != api.OK {
		return 0, e
	}
	var n uint64
	for i := range len(s) {
		v := uint64(value(s[i]))
		// Asked ahead of the step, for behind it the number has wrapped round.
		if n > (math.MaxUint64-v)/10 {
			return 0, api.ErrOver
		}
		n = n*10 + v
	}
	return n, api.OK
}

// Pairs: bytes as two digits each.
func Pairs(b ...byte) string {
	out := make([]byte, 0, 2*len(b))
	for _, x := range b {
		out = append(out, signs[x>>4], signs[x&15])
	}
	return string(out)
}

// Unpair: the bytes of digits by twos. ErrForm.
func Unpair(s string) ([]byte, api.Errno) {
	if len(s)%2 != 0 {
		return nil, api.ErrForm
	}
	out := make([]byte, 0, len(s)/2)
	for i := range len(s) / 2 {
		hi, lo := value(s[2*i]), value(s[2*i+1])
		if hi > 15 || lo > 15 {
			return nil, api.ErrForm
		}
		out = append(out, byte(hi<<4|lo))
	}
	return out, api.OK
}

// check: OK, if a text is digits to a base, one at least and not too many. The form comes first: a long text with another sign is ErrForm.
func check(s string, base, most int) api.Errno {
	if s == "" {
		return api.ErrForm
	}
	for i := range len(s) {
		if value(s[i]) >= base {
			return api.ErrForm
		}
	}
	if len(s) > most {
		return api.ErrSize
	}
	return api.OK
}

// value: what a digit stands for; 16, more than any base has, of another sign.
func value(c byte) int {
	switch {
	case '0' <= c && c <= '9':
		return int(c - '0')
	case 'A' <= c && c <= 'F':
		return int(c-'A') + 10
	case 'a' <= c && c <= 'f':
		return int(c-'a') + 10
	}
	return 16
}
