package ratio

import (
	"tontine/api"
	"tontine/exact"
)

// Sum is the sum of all (1.2).
func Sum(l []api.Ratio) (api.Ratio, api.Errno) {
	parts, e := exact.ReadAll(l, api.MaxItems)
	if e != api.OK {
		return api.Ratio{}, e
	}
	return exact.WriteSum(parts...)
}
