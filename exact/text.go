package exact

// IsWhole tells whether s is a whole number, as the Words have it.
func IsWhole(s string) bool {
	neg, digits := CutSign(s)
	return IsNatural(digits) && !(neg && digits == "0")
}

// IsNatural tells whether s is a whole number from nought on.
func IsNatural(s string) bool {
	return IsDigits(s) && (s[0] != '0' || s == "0")
}

// IsDigits tells whether s is one decimal digit or more.
func IsDigits(s string) bool {
	for i := range len(s) {
		if s[i] < '0' || s[i] > '9' {
			return false
		}
	}
	return s != ""
}

// CutSign tells whether - stands ahead, and what stands behind it.
func CutSign(s string) (bool, string) {
	if s != "" && s[0] == '-' {
		return true, s[1:]
	}
	return false, s
}

// WithSign is the digits, with - ahead, if neg.
func WithSign(neg bool, digits string) string {
	if neg {
		return "-" + digits
	}
	return digits
}
