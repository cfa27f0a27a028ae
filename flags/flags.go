// Package flags is layer 3: the condition codes.
package flags

import (
	"spinet/api"
)

// letters are those of the codes, the highest bit's first.
const letters = "EFHINZVC"

// Has: are all of these bits on?
func Has(cc byte, f ...byte) bool {
	m := mask(f)
	return cc&m == m
}

// With: the codes with these bits on, or off.
func With(cc byte, on bool, f ...byte) byte {
	if on {
		return cc | mask(f)
	}
	return cc &^ mask(f)
}

// NZ: N and Z as a byte has them.
func NZ(cc, r byte) byte {
	cc = With(cc, r >= 1<<7, api.N)
	return With(cc, r == 0, api.Z)
}

// NZW: N and Z as a word has them.
func NZW(cc byte, w uint16) byte {
	cc = With(cc, w >= 1<<15, api.N)
	return With(cc, w == 0, api.Z)
}

// Text: a letter for each bit that is on, a minus sign for each other one.
func Text(cc byte) string {
	out := []byte(letters)
	for i := range out {
		if !Has(cc, bit(i)) {
			out[i] = '-'
		}
	}
	return string(out)
}

// Read: the codes of such a text. ErrForm.
func Read(s string) (byte, api.Errno) {
	if len(s) != len(letters) {
		return 0, api.ErrForm
	}
	var cc byte
	for i := range len(letters) {
		switch s[i] {
		case letters[i]:
			cc = With(cc, true, bit(i))
		case '-':
		default:
			return 0, api.ErrForm
		}
	}
	return cc, api.OK
}

// bit: the bit whose letter is at a place of the text.
func bit(place int) byte { return byte(api.E) >> place }

// mask: the bits that are 1 in one of these.
func mask(f []byte) byte {
	var m byte
	for _, x := range f {
		m |= x
	}
	return m
}
