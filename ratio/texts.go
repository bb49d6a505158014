package ratio

// isWhole tells whether s is a whole number, as the Words have it.
func isWhole(s string) bool {
	neg, digits := cutSign(s)
	return isNatural(digits) && !(neg && digits == "0")
}

// isNatural tells whether s is a whole number from nought on.
func isNatural(s string) bool {
	return isDigits(s) && (s[0] != '0' || s == "0")
}

// isDigits tells whether s is one decimal digit or more.
func isDigits(s string) bool {
	for i := range len(s) {
		if s[i] < '0' || s[i] > '9' {
			return false
		}
	}
	return s != ""
}

// cutSign tells whether - stands ahead, and what stands behind it.
func cutSign(s string) (bool, string) {
	if s != "" && s[0] == '-' {
		return true, s[1:]
	}
	return false, s
}

func withSign(neg bool, digits string) string {
	if neg {
		return "-" + digits
	}
	return digits
}
