package cell

import (
	"strings"

	"millstream/api"
)

const (
	// The bits of a bool, and those that say whether there is something.
	noBits  = "\x00"
	yesBits = "\x01"

	wholeSize = 8       // bytes of a whole number
	turn      = 1 << 63 // what is added to it, so that the least one is 0

	// Behind each mark in a run of bytes stands whether it is a byte of the run, or its end. What says the end is the least that can stand in a byte's place, so that what ends first is less.
	mark   = "\x00"
	isByte = "\xff"
	isEnd  = "\x00"
)

func boolBits(c api.Cell) string {
	if c.N == 1 {
		return yesBits
	}
	return noBits
}

func takeBool(s string) (c api.Cell, n int, e api.Errno) {
	yes, n, e := takeYes(s)
	if yes {
		c.N = 1
	}
	return c, n, e
}

// takeYes takes one byte, that says yes or no.
func takeYes(s string) (yes bool, n int, e api.Errno) {
	switch {
	case s == "":
		return false, 0, api.ErrTrunc
	case strings.HasPrefix(s, yesBits):
		return true, len(yesBits), api.OK
	case strings.HasPrefix(s, noBits):
		return false, len(noBits), api.OK
	}
	return false, 0, api.ErrForm
}

func wholeBits(c api.Cell) string {
	rest := uint64(c.N) + turn
	var b [wholeSize]byte
	for i := range b {
		b[i] = byte(rest >> 56)
		rest <<= 8
	}
	return string(b[:])
}

func takeWhole(s string) (c api.Cell, n int, e api.Errno) {
	if len(s) < wholeSize {
		return api.Cell{}, 0, api.ErrTrunc
	}
	var turned uint64
	for i := range wholeSize {
		turned = turned<<8 | uint64(s[i])
	}
	return api.Cell{N: int64(turned - turn)}, wholeSize, api.OK
}

func runBits(c api.Cell) string {
	return strings.ReplaceAll(c.S, mark, mark+isByte) + mark + isEnd
}

func takeRun(s string) (c api.Cell, n int, e api.Errno) {
	var run strings.Builder
	for at := 0; at < len(s); at++ {
		taken := s[at]
		if taken == mark[0] {
			at++
			switch {
			case at == len(s):
				return api.Cell{}, 0, api.ErrTrunc
			case s[at] == isEnd[0]:
				return api.Cell{S: run.String()}, at + 1, api.OK
			case s[at] != isByte[0]:
				return api.Cell{}, 0, api.ErrForm
			}
		}
		if run.Len() == api.MaxCell {
			return api.Cell{}, 0, api.ErrForm
		}
		run.WriteByte(taken)
	}
	return api.Cell{}, 0, api.ErrTrunc
}
