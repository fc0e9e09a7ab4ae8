import Derived.Test.YtdibmmagnkjapaaGreatDoorTem
import Derived.Test.YtdibmmagnkjapaaGreatDoorTeo
namespace Go.Proofs.YtdibmmagnkjapaaGreatDoor
theorem topicLists_holds : Rows.TopicListsCardSaid := topicLists_from srtOk
end Go.Proofs.YtdibmmagnkjapaaGreatDoor
