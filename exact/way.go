package exact

import "tontine/api"

// IsWay tells whether way is one of the six ways to round.
func IsWay(way int) bool {
	return way >= api.RoundFloor && way <= api.RoundHalfEven
}

// IsAway tells whether a number that lies between two neighbours goes to the one farther from nought, by the way: neg tells whether it is below nought, odd whether the nearer one to nought is odd, half whether it is less than half way to the farther one (-1), half way (0), or more (1).
func IsAway(neg, odd bool, half, way int) bool {
	switch way {
	case api.RoundFloor:
		return neg
	case api.RoundCeil:
		return !neg
	case api.RoundUp:
		return true
	case api.RoundHalfUp:
		return half >= 0
	case api.RoundHalfEven:
		return half > 0 || half == 0 && odd
	}
	return false
}
