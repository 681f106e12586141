package impl

const (
	MaxText = 65536
	MaxList = 4096
	MaxName = 40

	OK       = 0
	ErrBad   = 1
	ErrLong  = 2
	ErrForm  = 3
	ErrRange = 4
	ErrNone  = 5
	ErrMany  = 6
	ErrFull  = 7
	ErrSize  = 8
	ErrRoot  = 9
	ErrFault = 10
	ErrGuard = 11
	ErrOff   = 12
	ErrOn    = 13
	ErrTrap  = 14
	ErrMode  = 15
	ErrBank  = 16
	ErrCall  = 17
	ErrTorn  = 18
	ErrLevel = 19
)

var codeWords = [...]string{
	OK:       "ok",
	ErrBad:   "bad",
	ErrLong:  "long",
	ErrForm:  "form",
	ErrRange: "range",
	ErrNone:  "none",
	ErrMany:  "many",
	ErrFull:  "full",
	ErrSize:  "size",
	ErrRoot:  "root",
	ErrFault: "fault",
	ErrGuard: "guard",
	ErrOff:   "off",
	ErrOn:    "on",
	ErrTrap:  "trap",
	ErrMode:  "mode",
	ErrBank:  "bank",
	ErrCall:  "call",
	ErrTorn:  "torn",
	ErrLevel: "level",
}

func isLetter(b byte) bool {
	return b >= 'a' && b <= 'z' || b >= 'A' && b <= 'Z' || b == '_'
}

func isDigit(b byte) bool {
	return b >= '0' && b <= '9'
}

func NameOK(t string) bool {
	if len(t) > MaxName || t == "" || !isLetter(t[0]) {
		return false
	}
	for i := 1; i < len(t); i++ {
		if !isLetter(t[i]) && !isDigit(t[i]) {
			return false
		}
	}
	return true
}

func CodeWord(code int) string {
	if code < 0 || code >= len(codeWords) {
		return ""
	}
	return codeWords[code]
}

// A word longer than MaxText is not ErrLong here: chapter 1 wants -1 for it.
func CodeOf(word string) int {
	for code, w := range codeWords {
		if w == word {
			return code
		}
	}
	return -1
}
