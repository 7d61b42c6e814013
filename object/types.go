package object

import "midrange/api"

// What the types permit are sums of these.
const (
	mayRename  = 1 << api.OperationRename
	mayMove    = 1 << api.OperationMove
	mayCopy    = 1 << api.OperationCopy
	mayDestroy = 1 << api.OperationDestroy
	mayRead    = 1 << api.OperationRead
	mayChange  = 1 << api.OperationChange
	mayCall    = 1 << api.OperationCall
	mayClear   = 1 << api.OperationClear
	maySave    = 1 << api.OperationSave
)

type objectType struct {
	name    string
	permits int
}

// types stand in the order of api's constants.
var types = [api.ObjectTypes]objectType{
	{"*LIB", mayRename | mayDestroy | maySave},
	{"*PGM", mayRename | mayMove | mayCopy | mayDestroy | mayCall | maySave},
	{"*SRVPGM", mayRename | mayMove | mayCopy | mayDestroy | maySave},
	{"*MODULE", mayRename | mayMove | mayCopy | mayDestroy | maySave},
	{"*FILE", mayRename | mayMove | mayCopy | mayDestroy | mayRead | mayChange | mayClear | maySave},
	{"*USRPRF", mayDestroy | mayRead | mayChange | maySave},
	{"*AUTL", mayDestroy | mayRead | mayChange | maySave},
	{"*MSGQ", mayRename | mayMove | mayCopy | mayDestroy | mayRead | mayChange | mayClear | maySave},
	{"*MSGF", mayRename | mayMove | mayCopy | mayDestroy | mayRead | mayChange | maySave},
	{"*JOBQ", mayRename | mayMove | mayDestroy | mayRead | mayChange | mayClear | maySave},
	{"*OUTQ", mayRename | mayMove | mayDestroy | mayRead | mayChange | mayClear | maySave},
	{"*JOBD", mayRename | mayMove | mayCopy | mayDestroy | mayRead | mayChange | maySave},
	{"*SBSD", mayRename | mayMove | mayCopy | mayDestroy | mayRead | mayChange | maySave},
	{"*CLS", mayRename | mayMove | mayCopy | mayDestroy | mayRead | mayChange | maySave},
	{"*CMD", mayRename | mayMove | mayCopy | mayDestroy | mayChange | mayCall | maySave},
	{"*JRN", mayDestroy | mayRead | maySave},
	{"*JRNRCV", mayDestroy | mayRead | maySave},
	{"*DTAARA", mayRename | mayMove | mayCopy | mayDestroy | mayRead | mayChange | maySave},
	{"*DTAQ", mayRename | mayMove | mayDestroy | mayRead | mayChange | mayClear | maySave},
	{"*SAVF", mayRename | mayMove | mayCopy | mayDestroy | mayRead | mayClear},
	{"*USRSPC", mayRename | mayMove | mayCopy | mayDestroy | mayRead | mayChange | maySave},
	{"*USRIDX", mayRename | mayMove | mayCopy | mayDestroy | mayRead | mayChange | maySave},
	{"*USRQ", mayRename | mayMove | mayDestroy | mayRead | mayChange | mayClear | maySave},
	{"*DEVD", mayRename | mayDestroy | mayRead | mayChange},
	{"*LIND", mayRename | mayDestroy | mayRead | mayChange},
	{"*CTLD", mayRename | mayDestroy | mayRead | mayChange},
	{"*EDTD", mayDestroy | mayRead | maySave},
	{"*TBL", mayRename | mayMove | mayCopy | mayDestroy | mayRead | maySave},
	{"*MENU", mayRename | mayMove | mayCopy | mayDestroy | mayCall | maySave},
	{"*QRYDFN", mayRename | mayMove | mayCopy | mayDestroy | mayRead | mayChange | mayCall | maySave},
}

func isType(t int) bool {
	return t >= 0 && t < api.ObjectTypes
}

// isSystemType says whether all objects of a type are in the system library.
func isSystemType(t int) bool {
	switch t {
	case api.TypeLibrary, api.TypeUser, api.TypeAuthList, api.TypeDevice, api.TypeLine, api.TypeController:
		return true
	}
	return false
}

func permits(t, operation int) bool {
	return types[t].permits&(1<<operation) != 0
}

// TypeName returns the name of a type.
func TypeName(t int) (string, api.Errno) {
	if !isType(t) {
		return "", api.ErrKind
	}
	return types[t].name, api.OK
}

// TypeOf returns the type with a name.
func TypeOf(s string) (int, api.Errno) {
	for t, x := range types {
		if x.name == s {
			return t, api.OK
		}
	}
	return 0, api.ErrName
}

// OperationsOf returns the operations that a type permits, ascending.
func OperationsOf(t int) ([]int, api.Errno) {
	if !isType(t) {
		return nil, api.ErrKind
	}
	var l []int
	for operation := range api.OperationKinds {
		if permits(t, operation) {
			l = append(l, operation)
		}
	}
	return l, api.OK
}
